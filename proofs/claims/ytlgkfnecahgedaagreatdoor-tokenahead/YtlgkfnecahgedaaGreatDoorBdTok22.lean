/- Texts that the proof leans on, one behind the other. -/
import Derived.Test.YtlgkfnecahgedaaGreatDoorBdTok20
import Derived.Test.YtlgkfnecahgedaaGreatDoorBdTok21
import Derived.Test.YtlgkfnecahgedaaGreatDoorBdTok10
import Derived.Test.YtlgkfnecahgedaaGreatDoorBdTok11

section
/- The document's escapes: what is left (TokRef21f). -/
set_option linter.unusedVariables false
set_option linter.unusedSimpArgs false
namespace Go.Proofs.YtlgkfnecahgedaaGreatDoor.tok
open Go.RowKit
open lin (BA Turns)

set_option maxHeartbeats 4000000 in
set_option maxRecDepth 100000 in
theorem resc_hik (rb tb : Nat) (ao : Option Addr) (n cap : Nat) (f : Nat → Int) (a k : Nat) (c p : Int) (st : Nat) (w : World) (h : RT w rb tb ao n cap f a k c p ⟨0, 0, 0, 0, [], false, st, 0⟩) (r : Int) (r0 : 0 ≤ r) (hl : a + 1 < n) (a2 : Nat) (hp : point f n (a + 1) = .ok r a2) (ha2 : a2 ≤ n) (n100 : ¬ r = 100) (n119 : ¬ r = 119) (n115 : ¬ r = 115) (n68 : ¬ r = 68) (n87 : ¬ r = 87) (n83 : ¬ r = 83) (n112 : ¬ r = 112) (n80 : ¬ r = 80) (n120 : ¬ r = 120) (n110 : ¬ r = 110) (n116 : ¬ r = 116) (n114 : ¬ r = 114) (hk : ¬ k = 0) (hr : 128 ≤ r) :
    Calls Tryz.prog 28 #[.pointer (some ⟨rb, 0, none⟩), .pointer (some ⟨tb, 0, none⟩)] w (REt w rb tb ao n cap f k c p st (.ok (char r) a2)) := by
  have q100 : (r == 100) = false := by simp [n100]
  have q119 : (r == 119) = false := by simp [n119]
  have q115 : (r == 115) = false := by simp [n115]
  have q68 : (r == 68) = false := by simp [n68]
  have q87 : (r == 87) = false := by simp [n87]
  have q83 : (r == 83) = false := by simp [n83]
  have q112 : (r == 112) = false := by simp [n112]
  have q80 : (r == 80) = false := by simp [n80]
  have q120 : (r == 120) = false := by simp [n120]
  have q110 : (r == 110) = false := by simp [n110]
  have q116 : (r == 116) = false := by simp [n116]
  have q114 : (r == 114) = false := by simp [n114]
  clear n100 n119 n115 n68 n87 n83 n112 n80 n120 n110 n116 n114
  have hk2 : ¬ (k : Int) = 0 := by omega
  have hk3 : ((k : Int) == 0) = false := by simp; omega
  clear hk
  have l8 : ¬ r < 128 := by omega
  have HP : Hid (point f n (a + 1) = .ok r a2) := hp
  clear hp
  have hz2 : 0 < n - (a + 1) := by omega
  have hz3 : ¬ n - (a + 1) = 0 := by omega
  have hz4 : (((n - (a + 1) : Nat) : Int) == 0) = false := by simp; omega
  have hne : ¬ tb = rb := h.ne
  have hne' : ¬ rb = tb := fun e => h.ne e.symm
  have hn := h.rs.nn
  have ha := h.rs.aa
  have hcc := h.rs.cc
  have hcm := h.rs.cm
  have S0 := h
  have U0 : T2 rb tb w w := lin.Turns.refl _ w
  clear h
  obtain ⟨⟨c0, c1, c2, z1, z2⟩, ⟨k0, k1, k2, k3, k4, k5, k6, k7⟩, ⟨f0, f1, f2, f3, f4, f5, f6, f7⟩⟩ := S0.cells
  go_enter Tryz.func28, Tryz.ntmps28
  have S1 := S0.put1 (x := ((a : Nat) : Int) + 1) (a' := a + 1) (by omega) (by omega)
  have U1 := T2.at U0 1 (.int .i64 (((a : Nat) : Int) + 1))
  clear S0 U0
  have C := rest_t S1 U1
  go_wp2_with fail
  refine C.mono ?_
  rintro e w2 ⟨rfl, S2, U2⟩
  clear C S1 U1
  clear c0 c1 c2 z1 z2 k0 k1 k2 k3 k4 k5 k6 k7 f0 f1 f2 f3 f4 f5 f6 f7
  obtain ⟨⟨c0, c1, c2, z1, z2⟩, ⟨k0, k1, k2, k3, k4, k5, k6, k7⟩, ⟨f0, f1, f2, f3, f4, f5, f6, f7⟩⟩ := S2.cells
  have C := char_ok S2 U2 hl HP.out
  go_wp2_with fail
  refine C.mono ?_
  rintro e w3 ⟨rfl, S3, U3⟩
  clear C S2 U2
  clear c0 c1 c2 z1 z2 k0 k1 k2 k3 k4 k5 k6 k7 f0 f1 f2 f3 f4 f5 f6 f7
  obtain ⟨⟨c0, c1, c2, z1, z2⟩, ⟨k0, k1, k2, k3, k4, k5, k6, k7⟩, ⟨f0, f1, f2, f3, f4, f5, f6, f7⟩⟩ := S3.cells
  have S4 := S3.t0 1
  have U4 := T2.put U3 0 (.int .i64 1)
  clear S3 U3
  have S5 := S4.t2 r
  have U5 := T2.put U4 2 (.int .i64 r)
  clear S4 U4
  go_wp2
  go_ret
  exact ⟨rfl, S5, U5⟩
set_option maxHeartbeats 4000000 in
set_option maxRecDepth 100000 in
theorem resc_lek (rb tb : Nat) (ao : Option Addr) (n cap : Nat) (f : Nat → Int) (a k : Nat) (c p : Int) (st : Nat) (w : World) (h : RT w rb tb ao n cap f a k c p ⟨0, 0, 0, 0, [], false, st, 0⟩) (r : Int) (r0 : 0 ≤ r) (hl : a + 1 < n) (a2 : Nat) (hp : point f n (a + 1) = .ok r a2) (ha2 : a2 ≤ n) (n100 : ¬ r = 100) (n119 : ¬ r = 119) (n115 : ¬ r = 115) (n68 : ¬ r = 68) (n87 : ¬ r = 87) (n83 : ¬ r = 83) (n112 : ¬ r = 112) (n80 : ¬ r = 80) (n120 : ¬ r = 120) (n110 : ¬ r = 110) (n116 : ¬ r = 116) (n114 : ¬ r = 114) (hk : ¬ k = 0) (hr : r < 128) (h95 : ¬ r = 95) (hle : lettB r = true) :
    Calls Tryz.prog 28 #[.pointer (some ⟨rb, 0, none⟩), .pointer (some ⟨tb, 0, none⟩)] w (REt w rb tb ao n cap f k c p st (.no 132 st)) := by
  have q100 : (r == 100) = false := by simp [n100]
  have q119 : (r == 119) = false := by simp [n119]
  have q115 : (r == 115) = false := by simp [n115]
  have q68 : (r == 68) = false := by simp [n68]
  have q87 : (r == 87) = false := by simp [n87]
  have q83 : (r == 83) = false := by simp [n83]
  have q112 : (r == 112) = false := by simp [n112]
  have q80 : (r == 80) = false := by simp [n80]
  have q120 : (r == 120) = false := by simp [n120]
  have q110 : (r == 110) = false := by simp [n110]
  have q116 : (r == 116) = false := by simp [n116]
  have q114 : (r == 114) = false := by simp [n114]
  clear n100 n119 n115 n68 n87 n83 n112 n80 n120 n110 n116 n114
  have hk2 : ¬ (k : Int) = 0 := by omega
  have hk3 : ((k : Int) == 0) = false := by simp; omega
  clear hk
  have e8 : IntKind.u8.wrap r = r := by rw [IntKind.wrap_u8]; omega
  have l8 : r < 128 := hr
  have m95 : (r != 95) = true := by simp [h95]
  have HLE : Hid (lettB r = true) := hle
  clear hle h95
  have HP : Hid (point f n (a + 1) = .ok r a2) := hp
  clear hp
  have hz2 : 0 < n - (a + 1) := by omega
  have hz3 : ¬ n - (a + 1) = 0 := by omega
  have hz4 : (((n - (a + 1) : Nat) : Int) == 0) = false := by simp; omega
  have hne : ¬ tb = rb := h.ne
  have hne' : ¬ rb = tb := fun e => h.ne e.symm
  have hn := h.rs.nn
  have ha := h.rs.aa
  have hcc := h.rs.cc
  have hcm := h.rs.cm
  have S0 := h
  have U0 : T2 rb tb w w := lin.Turns.refl _ w
  clear h
  obtain ⟨⟨c0, c1, c2, z1, z2⟩, ⟨k0, k1, k2, k3, k4, k5, k6, k7⟩, ⟨f0, f1, f2, f3, f4, f5, f6, f7⟩⟩ := S0.cells
  go_enter Tryz.func28, Tryz.ntmps28
  have S1 := S0.put1 (x := ((a : Nat) : Int) + 1) (a' := a + 1) (by omega) (by omega)
  have U1 := T2.at U0 1 (.int .i64 (((a : Nat) : Int) + 1))
  clear S0 U0
  have C := rest_t S1 U1
  go_wp2_with fail
  refine C.mono ?_
  rintro e w2 ⟨rfl, S2, U2⟩
  clear C S1 U1
  clear c0 c1 c2 z1 z2 k0 k1 k2 k3 k4 k5 k6 k7 f0 f1 f2 f3 f4 f5 f6 f7
  obtain ⟨⟨c0, c1, c2, z1, z2⟩, ⟨k0, k1, k2, k3, k4, k5, k6, k7⟩, ⟨f0, f1, f2, f3, f4, f5, f6, f7⟩⟩ := S2.cells
  have C := char_ok S2 U2 hl HP.out
  go_wp2_with fail
  refine C.mono ?_
  rintro e w3 ⟨rfl, S3, U3⟩
  clear C S2 U2
  clear c0 c1 c2 z1 z2 k0 k1 k2 k3 k4 k5 k6 k7 f0 f1 f2 f3 f4 f5 f6 f7
  obtain ⟨⟨c0, c1, c2, z1, z2⟩, ⟨k0, k1, k2, k3, k4, k5, k6, k7⟩, ⟨f0, f1, f2, f3, f4, f5, f6, f7⟩⟩ := S3.cells
  have C := rletter_any r w3
  rw [HLE.out] at C
  go_wp2_with fail
  refine C.mono ?_
  rintro e w' ⟨rfl, rfl⟩
  clear C
  have C := fail_t S3 U3 132 st
  go_wp2_with fail
  refine C.mono ?_
  rintro e w9 ⟨rfl, S9, U9⟩
  clear C
  go_wp2
  go_ret
  exact ⟨rfl, ⟨_, _, S9⟩, U9⟩
set_option maxHeartbeats 4000000 in
set_option maxRecDepth 100000 in
theorem resc_unk (rb tb : Nat) (ao : Option Addr) (n cap : Nat) (f : Nat → Int) (a k : Nat) (c p : Int) (st : Nat) (w : World) (h : RT w rb tb ao n cap f a k c p ⟨0, 0, 0, 0, [], false, st, 0⟩) (r : Int) (r0 : 0 ≤ r) (hl : a + 1 < n) (a2 : Nat) (hp : point f n (a + 1) = .ok r a2) (ha2 : a2 ≤ n) (n100 : ¬ r = 100) (n119 : ¬ r = 119) (n115 : ¬ r = 115) (n68 : ¬ r = 68) (n87 : ¬ r = 87) (n83 : ¬ r = 83) (n112 : ¬ r = 112) (n80 : ¬ r = 80) (n120 : ¬ r = 120) (n110 : ¬ r = 110) (n116 : ¬ r = 116) (n114 : ¬ r = 114) (hk : ¬ k = 0) (hr : r < 128) (h95 : r = 95) :
    Calls Tryz.prog 28 #[.pointer (some ⟨rb, 0, none⟩), .pointer (some ⟨tb, 0, none⟩)] w (REt w rb tb ao n cap f k c p st (.ok (char r) a2)) := by
  have q100 : (r == 100) = false := by simp [n100]
  have q119 : (r == 119) = false := by simp [n119]
  have q115 : (r == 115) = false := by simp [n115]
  have q68 : (r == 68) = false := by simp [n68]
  have q87 : (r == 87) = false := by simp [n87]
  have q83 : (r == 83) = false := by simp [n83]
  have q112 : (r == 112) = false := by simp [n112]
  have q80 : (r == 80) = false := by simp [n80]
  have q120 : (r == 120) = false := by simp [n120]
  have q110 : (r == 110) = false := by simp [n110]
  have q116 : (r == 116) = false := by simp [n116]
  have q114 : (r == 114) = false := by simp [n114]
  clear n100 n119 n115 n68 n87 n83 n112 n80 n120 n110 n116 n114
  have hk2 : ¬ (k : Int) = 0 := by omega
  have hk3 : ((k : Int) == 0) = false := by simp; omega
  clear hk
  have e8 : IntKind.u8.wrap r = r := by rw [IntKind.wrap_u8]; omega
  have l8 : r < 128 := hr
  have m95 : (r != 95) = false := by simp [h95]
  have HLE : Hid (lettB r = true) := by unfold Hid; rw [h95]; rfl
  have HDG : Hid (digitB r = false) := by unfold Hid; rw [h95]; rfl
  clear h95
  have HP : Hid (point f n (a + 1) = .ok r a2) := hp
  clear hp
  have hz2 : 0 < n - (a + 1) := by omega
  have hz3 : ¬ n - (a + 1) = 0 := by omega
  have hz4 : (((n - (a + 1) : Nat) : Int) == 0) = false := by simp; omega
  have hne : ¬ tb = rb := h.ne
  have hne' : ¬ rb = tb := fun e => h.ne e.symm
  have hn := h.rs.nn
  have ha := h.rs.aa
  have hcc := h.rs.cc
  have hcm := h.rs.cm
  have S0 := h
  have U0 : T2 rb tb w w := lin.Turns.refl _ w
  clear h
  obtain ⟨⟨c0, c1, c2, z1, z2⟩, ⟨k0, k1, k2, k3, k4, k5, k6, k7⟩, ⟨f0, f1, f2, f3, f4, f5, f6, f7⟩⟩ := S0.cells
  go_enter Tryz.func28, Tryz.ntmps28
  have S1 := S0.put1 (x := ((a : Nat) : Int) + 1) (a' := a + 1) (by omega) (by omega)
  have U1 := T2.at U0 1 (.int .i64 (((a : Nat) : Int) + 1))
  clear S0 U0
  have C := rest_t S1 U1
  go_wp2_with fail
  refine C.mono ?_
  rintro e w2 ⟨rfl, S2, U2⟩
  clear C S1 U1
  clear c0 c1 c2 z1 z2 k0 k1 k2 k3 k4 k5 k6 k7 f0 f1 f2 f3 f4 f5 f6 f7
  obtain ⟨⟨c0, c1, c2, z1, z2⟩, ⟨k0, k1, k2, k3, k4, k5, k6, k7⟩, ⟨f0, f1, f2, f3, f4, f5, f6, f7⟩⟩ := S2.cells
  have C := char_ok S2 U2 hl HP.out
  go_wp2_with fail
  refine C.mono ?_
  rintro e w3 ⟨rfl, S3, U3⟩
  clear C S2 U2
  clear c0 c1 c2 z1 z2 k0 k1 k2 k3 k4 k5 k6 k7 f0 f1 f2 f3 f4 f5 f6 f7
  obtain ⟨⟨c0, c1, c2, z1, z2⟩, ⟨k0, k1, k2, k3, k4, k5, k6, k7⟩, ⟨f0, f1, f2, f3, f4, f5, f6, f7⟩⟩ := S3.cells
  have C := rletter_any r w3
  rw [HLE.out] at C
  go_wp2_with fail
  refine C.mono ?_
  rintro e w' ⟨rfl, rfl⟩
  clear C
  have C := rdigit_any r w'
  rw [HDG.out] at C
  go_wp2_with fail
  refine C.mono ?_
  rintro e w' ⟨rfl, rfl⟩
  clear C
  have S4 := S3.t0 1
  have U4 := T2.put U3 0 (.int .i64 1)
  clear S3 U3
  have S5 := S4.t2 r
  have U5 := T2.put U4 2 (.int .i64 r)
  clear S4 U4
  go_wp2
  go_ret
  exact ⟨rfl, S5, U5⟩
set_option maxHeartbeats 4000000 in
set_option maxRecDepth 100000 in
theorem resc_dgk (rb tb : Nat) (ao : Option Addr) (n cap : Nat) (f : Nat → Int) (a k : Nat) (c p : Int) (st : Nat) (w : World) (h : RT w rb tb ao n cap f a k c p ⟨0, 0, 0, 0, [], false, st, 0⟩) (r : Int) (r0 : 0 ≤ r) (hl : a + 1 < n) (a2 : Nat) (hp : point f n (a + 1) = .ok r a2) (ha2 : a2 ≤ n) (n100 : ¬ r = 100) (n119 : ¬ r = 119) (n115 : ¬ r = 115) (n68 : ¬ r = 68) (n87 : ¬ r = 87) (n83 : ¬ r = 83) (n112 : ¬ r = 112) (n80 : ¬ r = 80) (n120 : ¬ r = 120) (n110 : ¬ r = 110) (n116 : ¬ r = 116) (n114 : ¬ r = 114) (hk : ¬ k = 0) (hr : r < 128) (hle : lettB r = false) (hdg : digitB r = true) :
    Calls Tryz.prog 28 #[.pointer (some ⟨rb, 0, none⟩), .pointer (some ⟨tb, 0, none⟩)] w (REt w rb tb ao n cap f k c p st (.no 132 st)) := by
  have q100 : (r == 100) = false := by simp [n100]
  have q119 : (r == 119) = false := by simp [n119]
  have q115 : (r == 115) = false := by simp [n115]
  have q68 : (r == 68) = false := by simp [n68]
  have q87 : (r == 87) = false := by simp [n87]
  have q83 : (r == 83) = false := by simp [n83]
  have q112 : (r == 112) = false := by simp [n112]
  have q80 : (r == 80) = false := by simp [n80]
  have q120 : (r == 120) = false := by simp [n120]
  have q110 : (r == 110) = false := by simp [n110]
  have q116 : (r == 116) = false := by simp [n116]
  have q114 : (r == 114) = false := by simp [n114]
  clear n100 n119 n115 n68 n87 n83 n112 n80 n120 n110 n116 n114
  have hk2 : ¬ (k : Int) = 0 := by omega
  have hk3 : ((k : Int) == 0) = false := by simp; omega
  clear hk
  have e8 : IntKind.u8.wrap r = r := by rw [IntKind.wrap_u8]; omega
  have l8 : r < 128 := hr
  have HLE : Hid (lettB r = false) := hle
  have HDG : Hid (digitB r = true) := hdg
  clear hle hdg
  have HP : Hid (point f n (a + 1) = .ok r a2) := hp
  clear hp
  have hz2 : 0 < n - (a + 1) := by omega
  have hz3 : ¬ n - (a + 1) = 0 := by omega
  have hz4 : (((n - (a + 1) : Nat) : Int) == 0) = false := by simp; omega
  have hne : ¬ tb = rb := h.ne
  have hne' : ¬ rb = tb := fun e => h.ne e.symm
  have hn := h.rs.nn
  have ha := h.rs.aa
  have hcc := h.rs.cc
  have hcm := h.rs.cm
  have S0 := h
  have U0 : T2 rb tb w w := lin.Turns.refl _ w
  clear h
  obtain ⟨⟨c0, c1, c2, z1, z2⟩, ⟨k0, k1, k2, k3, k4, k5, k6, k7⟩, ⟨f0, f1, f2, f3, f4, f5, f6, f7⟩⟩ := S0.cells
  go_enter Tryz.func28, Tryz.ntmps28
  have S1 := S0.put1 (x := ((a : Nat) : Int) + 1) (a' := a + 1) (by omega) (by omega)
  have U1 := T2.at U0 1 (.int .i64 (((a : Nat) : Int) + 1))
  clear S0 U0
  have C := rest_t S1 U1
  go_wp2_with fail
  refine C.mono ?_
  rintro e w2 ⟨rfl, S2, U2⟩
  clear C S1 U1
  clear c0 c1 c2 z1 z2 k0 k1 k2 k3 k4 k5 k6 k7 f0 f1 f2 f3 f4 f5 f6 f7
  obtain ⟨⟨c0, c1, c2, z1, z2⟩, ⟨k0, k1, k2, k3, k4, k5, k6, k7⟩, ⟨f0, f1, f2, f3, f4, f5, f6, f7⟩⟩ := S2.cells
  have C := char_ok S2 U2 hl HP.out
  go_wp2_with fail
  refine C.mono ?_
  rintro e w3 ⟨rfl, S3, U3⟩
  clear C S2 U2
  clear c0 c1 c2 z1 z2 k0 k1 k2 k3 k4 k5 k6 k7 f0 f1 f2 f3 f4 f5 f6 f7
  obtain ⟨⟨c0, c1, c2, z1, z2⟩, ⟨k0, k1, k2, k3, k4, k5, k6, k7⟩, ⟨f0, f1, f2, f3, f4, f5, f6, f7⟩⟩ := S3.cells
  have C := rletter_any r w3
  rw [HLE.out] at C
  go_wp2_with fail
  refine C.mono ?_
  rintro e w' ⟨rfl, rfl⟩
  clear C
  have C := rdigit_any r w'
  rw [HDG.out] at C
  go_wp2_with fail
  refine C.mono ?_
  rintro e w' ⟨rfl, rfl⟩
  clear C
  have C := fail_t S3 U3 132 st
  go_wp2_with fail
  refine C.mono ?_
  rintro e w9 ⟨rfl, S9, U9⟩
  clear C
  go_wp2
  go_ret
  exact ⟨rfl, ⟨_, _, S9⟩, U9⟩
set_option maxHeartbeats 4000000 in
set_option maxRecDepth 100000 in
theorem resc_nok (rb tb : Nat) (ao : Option Addr) (n cap : Nat) (f : Nat → Int) (a k : Nat) (c p : Int) (st : Nat) (w : World) (h : RT w rb tb ao n cap f a k c p ⟨0, 0, 0, 0, [], false, st, 0⟩) (r : Int) (r0 : 0 ≤ r) (hl : a + 1 < n) (a2 : Nat) (hp : point f n (a + 1) = .ok r a2) (ha2 : a2 ≤ n) (n100 : ¬ r = 100) (n119 : ¬ r = 119) (n115 : ¬ r = 115) (n68 : ¬ r = 68) (n87 : ¬ r = 87) (n83 : ¬ r = 83) (n112 : ¬ r = 112) (n80 : ¬ r = 80) (n120 : ¬ r = 120) (n110 : ¬ r = 110) (n116 : ¬ r = 116) (n114 : ¬ r = 114) (hk : ¬ k = 0) (hr : r < 128) (hle : lettB r = false) (hdg : digitB r = false) :
    Calls Tryz.prog 28 #[.pointer (some ⟨rb, 0, none⟩), .pointer (some ⟨tb, 0, none⟩)] w (REt w rb tb ao n cap f k c p st (.ok (char r) a2)) := by
  have q100 : (r == 100) = false := by simp [n100]
  have q119 : (r == 119) = false := by simp [n119]
  have q115 : (r == 115) = false := by simp [n115]
  have q68 : (r == 68) = false := by simp [n68]
  have q87 : (r == 87) = false := by simp [n87]
  have q83 : (r == 83) = false := by simp [n83]
  have q112 : (r == 112) = false := by simp [n112]
  have q80 : (r == 80) = false := by simp [n80]
  have q120 : (r == 120) = false := by simp [n120]
  have q110 : (r == 110) = false := by simp [n110]
  have q116 : (r == 116) = false := by simp [n116]
  have q114 : (r == 114) = false := by simp [n114]
  clear n100 n119 n115 n68 n87 n83 n112 n80 n120 n110 n116 n114
  have hk2 : ¬ (k : Int) = 0 := by omega
  have hk3 : ((k : Int) == 0) = false := by simp; omega
  clear hk
  have e8 : IntKind.u8.wrap r = r := by rw [IntKind.wrap_u8]; omega
  have l8 : r < 128 := hr
  have HLE : Hid (lettB r = false) := hle
  have HDG : Hid (digitB r = false) := hdg
  clear hle hdg
  have HP : Hid (point f n (a + 1) = .ok r a2) := hp
  clear hp
  have hz2 : 0 < n - (a + 1) := by omega
  have hz3 : ¬ n - (a + 1) = 0 := by omega
  have hz4 : (((n - (a + 1) : Nat) : Int) == 0) = false := by simp; omega
  have hne : ¬ tb = rb := h.ne
  have hne' : ¬ rb = tb := fun e => h.ne e.symm
  have hn := h.rs.nn
  have ha := h.rs.aa
  have hcc := h.rs.cc
  have hcm := h.rs.cm
  have S0 := h
  have U0 : T2 rb tb w w := lin.Turns.refl _ w
  clear h
  obtain ⟨⟨c0, c1, c2, z1, z2⟩, ⟨k0, k1, k2, k3, k4, k5, k6, k7⟩, ⟨f0, f1, f2, f3, f4, f5, f6, f7⟩⟩ := S0.cells
  go_enter Tryz.func28, Tryz.ntmps28
  have S1 := S0.put1 (x := ((a : Nat) : Int) + 1) (a' := a + 1) (by omega) (by omega)
  have U1 := T2.at U0 1 (.int .i64 (((a : Nat) : Int) + 1))
  clear S0 U0
  have C := rest_t S1 U1
  go_wp2_with fail
  refine C.mono ?_
  rintro e w2 ⟨rfl, S2, U2⟩
  clear C S1 U1
  clear c0 c1 c2 z1 z2 k0 k1 k2 k3 k4 k5 k6 k7 f0 f1 f2 f3 f4 f5 f6 f7
  obtain ⟨⟨c0, c1, c2, z1, z2⟩, ⟨k0, k1, k2, k3, k4, k5, k6, k7⟩, ⟨f0, f1, f2, f3, f4, f5, f6, f7⟩⟩ := S2.cells
  have C := char_ok S2 U2 hl HP.out
  go_wp2_with fail
  refine C.mono ?_
  rintro e w3 ⟨rfl, S3, U3⟩
  clear C S2 U2
  clear c0 c1 c2 z1 z2 k0 k1 k2 k3 k4 k5 k6 k7 f0 f1 f2 f3 f4 f5 f6 f7
  obtain ⟨⟨c0, c1, c2, z1, z2⟩, ⟨k0, k1, k2, k3, k4, k5, k6, k7⟩, ⟨f0, f1, f2, f3, f4, f5, f6, f7⟩⟩ := S3.cells
  have C := rletter_any r w3
  rw [HLE.out] at C
  go_wp2_with fail
  refine C.mono ?_
  rintro e w' ⟨rfl, rfl⟩
  clear C
  have C := rdigit_any r w'
  rw [HDG.out] at C
  go_wp2_with fail
  refine C.mono ?_
  rintro e w' ⟨rfl, rfl⟩
  clear C
  have S4 := S3.t0 1
  have U4 := T2.put U3 0 (.int .i64 1)
  clear S3 U3
  have S5 := S4.t2 r
  have U5 := T2.put U4 2 (.int .i64 r)
  clear S4 U4
  go_wp2
  go_ret
  exact ⟨rfl, S5, U5⟩
end Go.Proofs.YtlgkfnecahgedaaGreatDoor.tok
end

section
/- The document's escapes. -/
set_option linter.unusedVariables false
set_option linter.unusedSimpArgs false
namespace Go.Proofs.YtlgkfnecahgedaaGreatDoor.tok
open Go.RowKit
open lin (BA Turns)

theorem lett_of (r : Int) (h : r < 128) : (letterB r = false ∧ digitB r = false) ∨ (lettB r = true ∧ ¬ r = 95 ∧ letterB r = true) ∨ (lettB r = false ∧ digitB r = true ∧ letterB r = false) := by
  unfold lettB
  cases h1 : letterB r with
  | true =>
    right; left
    refine ⟨rfl, fun e => ?_, rfl⟩
    rw [e] at h1; exact absurd h1 (by decide)
  | false =>
    cases h2 : digitB r with
    | true =>
      right; right
      refine ⟨?_, rfl, rfl⟩
      simp only [Bool.false_or, beq_eq_false_iff_ne, ne_eq]
      intro e; rw [e] at h2; exact absurd h2 (by decide)
    | false => left; exact ⟨rfl, rfl⟩
theorem low_letter (r : Int) (h : 128 ≤ r) : letterB r = false ∧ digitB r = false := by
  unfold letterB digitB
  simp
  omega
set_option maxHeartbeats 2000000 in
theorem rescape (rb tb : Nat) (ao : Option Addr) (n cap : Nat) (f : Nat → Int) (a k : Nat) (c p : Int) (st : Nat) (w : World) (h : RT w rb tb ao n cap f a k c p ⟨0, 0, 0, 0, [], false, st, 0⟩) (hst : noneC f st = 132) (hl0 : a < n) :
    Calls Tryz.prog 28 #[.pointer (some ⟨rb, 0, none⟩), .pointer (some ⟨tb, 0, none⟩)] w (REt w rb tb ao n cap f k c p st (escape f n st (a + 1) k)) := by
  have hf := h.rs.ff
  unfold escape
  by_cases hl : a + 1 < n
  · cases hp : point f n (a + 1) with
    | no c1 p1 => rw [bind_no]; exact resc_mal rb tb ao n cap f a k c p st w h hl c1 p1 hp
    | ok r a2 =>
      have hv := point_val hp
      have hi := point_inv f n hf hp
      have r0 := hi.2.1
      rw [bind_ok]
      by_cases n100 : r = 100
      · rw [if_pos n100]; subst n100; exact resc_100 rb tb ao n cap f a k c p st w h hl a2 hp hv.2.2
      rw [if_neg n100]
      by_cases n119 : r = 119
      · rw [if_pos n119]; subst n119; exact resc_119 rb tb ao n cap f a k c p st w h hl a2 hp hv.2.2
      rw [if_neg n119]
      by_cases n115 : r = 115
      · rw [if_pos n115]; subst n115; exact resc_115 rb tb ao n cap f a k c p st w h hl a2 hp hv.2.2
      rw [if_neg n115]
      by_cases n68 : r = 68
      · rw [if_pos n68]; subst n68; exact resc_68 rb tb ao n cap f a k c p st w h hl a2 hp hv.2.2
      rw [if_neg n68]
      by_cases n87 : r = 87
      · rw [if_pos n87]; subst n87; exact resc_87 rb tb ao n cap f a k c p st w h hl a2 hp hv.2.2
      rw [if_neg n87]
      by_cases n83 : r = 83
      · rw [if_pos n83]; subst n83; exact resc_83 rb tb ao n cap f a k c p st w h hl a2 hp hv.2.2
      rw [if_neg n83]
      by_cases n112 : r = 112
      · rw [if_pos n112]; subst n112; exact resc_112 rb tb ao n cap f a k c p st w h hst hl a2 hp hv.2.2
      rw [if_neg n112]
      by_cases n80 : r = 80
      · rw [if_pos n80]; subst n80; exact resc_80 rb tb ao n cap f a k c p st w h hst hl a2 hp hv.2.2
      rw [if_neg n80]
      by_cases n110 : r = 110
      · rw [if_pos n110]; subst n110; exact resc_110 rb tb ao n cap f a k c p st w h hl a2 hp hv.2.2
      rw [if_neg n110]
      by_cases n116 : r = 116
      · rw [if_pos n116]; subst n116; exact resc_116 rb tb ao n cap f a k c p st w h hl a2 hp hv.2.2
      rw [if_neg n116]
      by_cases n114 : r = 114
      · rw [if_pos n114]; subst n114; exact resc_114 rb tb ao n cap f a k c p st w h hl a2 hp hv.2.2
      rw [if_neg n114]
      by_cases n120 : r = 120
      · rw [if_pos n120]; subst n120; exact resc_120 rb tb ao n cap f a k c p st w h hst hl a2 hp hv.2.2
      rw [if_neg n120]
      by_cases hk : k = 0
      · by_cases hX : r = 65 ∨ r = 122 ∨ r = 88 ∨ r = 98 ∨ r = 66 ∨ r = 107 ∨ (49 ≤ r ∧ r ≤ 57)
        · have hld : ¬ (letterB r = false ∧ digitB r = false) := by
            intro hh
            unfold letterB digitB at hh
            simp at hh
            omega
          rw [if_neg hld, if_neg (by omega)]
          have G : ∀ o : Out Tk, (∀ W, RT W rb tb ao n cap f a2 k c p ⟨0, 0, 0, 0, [], false, st, 0⟩ → Calls Tryz.prog 50 #[.pointer (some ⟨rb, 0, none⟩), .pointer (some ⟨tb, 0, none⟩), .int .i64 r] W (ROt W rb tb ao n cap f k c p st o)) → escOut f n st r a2 = o →
              Calls Tryz.prog 28 #[.pointer (some ⟨rb, 0, none⟩), .pointer (some ⟨tb, 0, none⟩)] w (REt w rb tb ao n cap f k c p st (escOut f n st r a2)) := fun o ho e => by
            rw [e]; exact resc_outer rb tb ao n cap f a k c p st w h r o hl a2 hp hv.2.2 n100 n119 n115 n68 n87 n83 n112 n80 n120 n110 n116 n114 hk ho
          rcases hX with rfl | rfl | rfl | rfl | rfl | rfl | ⟨d1, d2⟩
          · exact G _ (fun W hW => rout_A rb tb ao n cap f a2 k c p st W hW) rfl
          · exact G _ (fun W hW => rout_z rb tb ao n cap f a2 k c p st W hW) rfl
          · exact G _ (fun W hW => rout_X rb tb ao n cap f a2 k c p st W hW) rfl
          · exact G _ (fun W hW => rout_b rb tb ao n cap f a2 k c p st W hW hst) rfl
          · exact G _ (fun W hW => rout_B rb tb ao n cap f a2 k c p st W hW hst) rfl
          · exact G _ (fun W hW => rout_k rb tb ao n cap f a2 k c p st W hW hst) rfl
          · refine G _ (fun W hW => rout_digit rb tb ao n cap f a2 k c p st W hW r d1 d2) ?_
            unfold escOut
            rw [if_neg (by omega), if_neg (by omega), if_neg (by omega), if_neg (by omega), if_neg (by omega), if_neg (by omega), if_pos ⟨d1, d2⟩]
        · have x65 : ¬ r = 65 := fun e => hX (.inl e)
          have x122 : ¬ r = 122 := fun e => hX (.inr (.inl e))
          have x88 : ¬ r = 88 := fun e => hX (.inr (.inr (.inl e)))
          have x98 : ¬ r = 98 := fun e => hX (.inr (.inr (.inr (.inl e))))
          have x66 : ¬ r = 66 := fun e => hX (.inr (.inr (.inr (.inr (.inl e)))))
          have x107 : ¬ r = 107 := fun e => hX (.inr (.inr (.inr (.inr (.inr (.inl e))))))
          have xd : ¬ (49 ≤ r ∧ r ≤ 57) := fun e => hX (.inr (.inr (.inr (.inr (.inr (.inr e))))))
          have ho := fun W (hW : RT W rb tb ao n cap f a2 k c p ⟨0, 0, 0, 0, [], false, st, 0⟩) => rout_none rb tb ao n cap f a2 k c p st W hW r r0 hi.2.2.1 xd x65 x122 x88 x98 x66 x107
          have hno : escOut f n st r a2 = .no 132 st := by
            unfold escOut nope
            rw [if_neg x65, if_neg x122, if_neg x98, if_neg x66, if_neg x88, if_neg x107, if_neg xd, hst]
          by_cases h128 : r < 128
          · rcases lett_of r h128 with h1 | ⟨h1, h2, h3⟩ | ⟨h1, h2, h3⟩
            · rw [if_pos h1]
              by_cases h95 : r = 95
              · exact resc_un0 rb tb ao n cap f a k c p st w h r r0 hl a2 hp hv.2.2 n100 n119 n115 n68 n87 n83 n112 n80 n120 n110 n116 n114 hk ho h128 h95
              · exact resc_no0 rb tb ao n cap f a k c p st w h r r0 hl a2 hp hv.2.2 n100 n119 n115 n68 n87 n83 n112 n80 n120 n110 n116 n114 hk ho h128 (by unfold lettB; rw [h1.1]; simp [h95]) h1.2
            · rw [if_neg (fun hh => by rw [h3] at hh; exact absurd hh.1 (by decide)), if_neg (by omega), hno]
              exact resc_le0 rb tb ao n cap f a k c p st w h r r0 hl a2 hp hv.2.2 n100 n119 n115 n68 n87 n83 n112 n80 n120 n110 n116 n114 hk ho h128 h2 h1
            · rw [if_neg (fun hh => by rw [h2] at hh; exact absurd hh.2 (by decide)), if_neg (by omega), hno]
              exact resc_dg0 rb tb ao n cap f a k c p st w h r r0 hl a2 hp hv.2.2 n100 n119 n115 n68 n87 n83 n112 n80 n120 n110 n116 n114 hk ho h128 h1 h2
          · rw [if_pos (low_letter r (by omega))]
            exact resc_hi0 rb tb ao n cap f a k c p st w h r r0 hl a2 hp hv.2.2 n100 n119 n115 n68 n87 n83 n112 n80 n120 n110 n116 n114 hk ho (by omega)
      · have hnp : (nope f st : Out Tk) = .no 132 st := by unfold nope; rw [hst]
        by_cases h128 : r < 128
        · rcases lett_of r h128 with h1 | ⟨h1, h2, h3⟩ | ⟨h1, h2, h3⟩
          · rw [if_pos h1]
            by_cases h95 : r = 95
            · exact resc_unk rb tb ao n cap f a k c p st w h r r0 hl a2 hp hv.2.2 n100 n119 n115 n68 n87 n83 n112 n80 n120 n110 n116 n114 hk h128 h95
            · exact resc_nok rb tb ao n cap f a k c p st w h r r0 hl a2 hp hv.2.2 n100 n119 n115 n68 n87 n83 n112 n80 n120 n110 n116 n114 hk h128 (by unfold lettB; rw [h1.1]; simp [h95]) h1.2
          · rw [if_neg (fun hh => by rw [h3] at hh; exact absurd hh.1 (by decide)), if_pos (by omega), hnp]
            exact resc_lek rb tb ao n cap f a k c p st w h r r0 hl a2 hp hv.2.2 n100 n119 n115 n68 n87 n83 n112 n80 n120 n110 n116 n114 hk h128 h2 h1
          · rw [if_neg (fun hh => by rw [h2] at hh; exact absurd hh.2 (by decide)), if_pos (by omega), hnp]
            exact resc_dgk rb tb ao n cap f a k c p st w h r r0 hl a2 hp hv.2.2 n100 n119 n115 n68 n87 n83 n112 n80 n120 n110 n116 n114 hk h128 h1 h2
        · rw [if_pos (low_letter r (by omega))]
          exact resc_hik rb tb ao n cap f a k c p st w h r r0 hl a2 hp hv.2.2 n100 n119 n115 n68 n87 n83 n112 n80 n120 n110 n116 n114 hk (by omega)
  · have e : point f n (a + 1) = .no 130 n := by unfold point; rw [if_neg hl]
    rw [e, bind_no]
    exact resc_end rb tb ao n cap f a k c p st w h (by omega)
end Go.Proofs.YtlgkfnecahgedaaGreatDoor.tok
end

section
/- Tokens of classes, whatever stands there; how next ends. -/
set_option linter.unusedVariables false
set_option linter.unusedSimpArgs false
namespace Go.Proofs.YtlgkfnecahgedaaGreatDoor.tok
open Go.RowKit
open lin (BA Turns)

theorem set8g {w : World} {g : Nat} {x0 x1 x2 x3 x4 x5 x6 x7 : Value} {t : TypeId} (G : w.heap[g]? = some (.cells #[x0, x1, x2, x3, x4, x5, x6, x7] t (0, 0))) (v0 v1 v2 v3 v4 v5 v6 v7 : Value) :
    ((((((((w.setCell ⟨g, 0, none⟩ v0).setCell ⟨g, 1, none⟩ v1).setCell ⟨g, 2, none⟩ v2).setCell ⟨g, 3, none⟩ v3).setCell ⟨g, 4, none⟩ v4).setCell ⟨g, 5, none⟩ v5).setCell ⟨g, 6, none⟩ v6).setCell ⟨g, 7, none⟩ v7).heap[g]? = some (.cells #[v0, v1, v2, v3, v4, v5, v6, v7] t (0, 0)) := by
  have G0 : (w.setCell ⟨g, 0, none⟩ v0).heap[g]? = some (.cells #[v0, x1, x2, x3, x4, x5, x6, x7] t (0, 0)) := by have := heap_setCell_same _ g 0 _ _ v0 G; simpa only [List.setIfInBounds_toArray, List.set_cons_zero, List.set_cons_succ] using this
  have G1 : ((w.setCell ⟨g, 0, none⟩ v0).setCell ⟨g, 1, none⟩ v1).heap[g]? = some (.cells #[v0, v1, x2, x3, x4, x5, x6, x7] t (0, 0)) := by have := heap_setCell_same _ g 1 _ _ v1 G0; simpa only [List.setIfInBounds_toArray, List.set_cons_zero, List.set_cons_succ] using this
  have G2 : (((w.setCell ⟨g, 0, none⟩ v0).setCell ⟨g, 1, none⟩ v1).setCell ⟨g, 2, none⟩ v2).heap[g]? = some (.cells #[v0, v1, v2, x3, x4, x5, x6, x7] t (0, 0)) := by have := heap_setCell_same _ g 2 _ _ v2 G1; simpa only [List.setIfInBounds_toArray, List.set_cons_zero, List.set_cons_succ] using this
  have G3 : ((((w.setCell ⟨g, 0, none⟩ v0).setCell ⟨g, 1, none⟩ v1).setCell ⟨g, 2, none⟩ v2).setCell ⟨g, 3, none⟩ v3).heap[g]? = some (.cells #[v0, v1, v2, v3, x4, x5, x6, x7] t (0, 0)) := by have := heap_setCell_same _ g 3 _ _ v3 G2; simpa only [List.setIfInBounds_toArray, List.set_cons_zero, List.set_cons_succ] using this
  have G4 : (((((w.setCell ⟨g, 0, none⟩ v0).setCell ⟨g, 1, none⟩ v1).setCell ⟨g, 2, none⟩ v2).setCell ⟨g, 3, none⟩ v3).setCell ⟨g, 4, none⟩ v4).heap[g]? = some (.cells #[v0, v1, v2, v3, v4, x5, x6, x7] t (0, 0)) := by have := heap_setCell_same _ g 4 _ _ v4 G3; simpa only [List.setIfInBounds_toArray, List.set_cons_zero, List.set_cons_succ] using this
  have G5 : ((((((w.setCell ⟨g, 0, none⟩ v0).setCell ⟨g, 1, none⟩ v1).setCell ⟨g, 2, none⟩ v2).setCell ⟨g, 3, none⟩ v3).setCell ⟨g, 4, none⟩ v4).setCell ⟨g, 5, none⟩ v5).heap[g]? = some (.cells #[v0, v1, v2, v3, v4, v5, x6, x7] t (0, 0)) := by have := heap_setCell_same _ g 5 _ _ v5 G4; simpa only [List.setIfInBounds_toArray, List.set_cons_zero, List.set_cons_succ] using this
  have G6 : (((((((w.setCell ⟨g, 0, none⟩ v0).setCell ⟨g, 1, none⟩ v1).setCell ⟨g, 2, none⟩ v2).setCell ⟨g, 3, none⟩ v3).setCell ⟨g, 4, none⟩ v4).setCell ⟨g, 5, none⟩ v5).setCell ⟨g, 6, none⟩ v6).heap[g]? = some (.cells #[v0, v1, v2, v3, v4, v5, v6, x7] t (0, 0)) := by have := heap_setCell_same _ g 6 _ _ v6 G5; simpa only [List.setIfInBounds_toArray, List.set_cons_zero, List.set_cons_succ] using this
  have G7 : ((((((((w.setCell ⟨g, 0, none⟩ v0).setCell ⟨g, 1, none⟩ v1).setCell ⟨g, 2, none⟩ v2).setCell ⟨g, 3, none⟩ v3).setCell ⟨g, 4, none⟩ v4).setCell ⟨g, 5, none⟩ v5).setCell ⟨g, 6, none⟩ v6).setCell ⟨g, 7, none⟩ v7).heap[g]? = some (.cells #[v0, v1, v2, v3, v4, v5, v6, v7] t (0, 0)) := by have := heap_setCell_same _ g 7 _ _ v7 G6; simpa only [List.setIfInBounds_toArray, List.set_cons_zero, List.set_cons_succ] using this
  exact G7
theorem Rs.set8 {w : World} {rb : Nat} {ao : Option Addr} {n cap : Nat} {f : Nat → Int} {a k : Nat} {c p : Int} (h : Rs w rb ao n cap f a k c p) {g : Nat} (hg : g ≠ rb) (hb : ∀ b off, ao = some ⟨b, off, none⟩ → g ≠ b) (v0 v1 v2 v3 v4 v5 v6 v7 : Value) : Rs ((((((((w.setCell ⟨g, 0, none⟩ v0).setCell ⟨g, 1, none⟩ v1).setCell ⟨g, 2, none⟩ v2).setCell ⟨g, 3, none⟩ v3).setCell ⟨g, 4, none⟩ v4).setCell ⟨g, 5, none⟩ v5).setCell ⟨g, 6, none⟩ v6).setCell ⟨g, 7, none⟩ v7) rb ao n cap f a k c p :=
  (Rs.set (q := ⟨g, 7, none⟩) (v := v7) (Rs.set (q := ⟨g, 6, none⟩) (v := v6) (Rs.set (q := ⟨g, 5, none⟩) (v := v5) (Rs.set (q := ⟨g, 4, none⟩) (v := v4) (Rs.set (q := ⟨g, 3, none⟩) (v := v3) (Rs.set (q := ⟨g, 2, none⟩) (v := v2) (Rs.set (q := ⟨g, 1, none⟩) (v := v1) (Rs.set (q := ⟨g, 0, none⟩) (v := v0) h hg hb) hg hb) hg hb) hg hb) hg hb) hg hb) hg hb) hg hb)
theorem Tn.set8 {rb : Nat} {w w1 : World} (h : Tn rb w w1) {g : Nat} (hg : w.heap.size ≤ g) (v0 v1 v2 v3 v4 v5 v6 v7 : Value) : Tn rb w ((((((((w1.setCell ⟨g, 0, none⟩ v0).setCell ⟨g, 1, none⟩ v1).setCell ⟨g, 2, none⟩ v2).setCell ⟨g, 3, none⟩ v3).setCell ⟨g, 4, none⟩ v4).setCell ⟨g, 5, none⟩ v5).setCell ⟨g, 6, none⟩ v6).setCell ⟨g, 7, none⟩ v7) :=
  (Tn.new (p := ⟨g, 7, none⟩) (Tn.new (p := ⟨g, 6, none⟩) (Tn.new (p := ⟨g, 5, none⟩) (Tn.new (p := ⟨g, 4, none⟩) (Tn.new (p := ⟨g, 3, none⟩) (Tn.new (p := ⟨g, 2, none⟩) (Tn.new (p := ⟨g, 1, none⟩) (Tn.new (p := ⟨g, 0, none⟩) h hg v0) hg v1) hg v2) hg v3) hg v4) hg v5) hg v6) hg v7)
theorem tn_of {rb tb : Nat} {w W w' : World} (hW : Below w.heap.size w W) (U : T2 rb tb W w') (htb : w.heap.size ≤ tb) : Tn rb w w' :=
  ⟨U.os.trans hW.os, U.tape.trans hW.tape, U.output.trans hW.output, Nat.le_trans hW.size U.size, fun k hk hd => (U.block k (Nat.lt_of_lt_of_le hk hW.size) (fun h => h.elim hd (fun e => by omega))).trans (hW.block k hk)⟩
theorem results2c {P : Program} {fn : Func} {p q : Tmp} {ty : TypeId} (h : fn.results = #[.cell q ty, .tmp p]) (tmps : Array Value) (w : World) (v : Value) (g : Nat) (t : TypeId) (cs : Array Value) (fr : Nat × Nat) (d : TypeDesc)
    (hv : tmps.getD p undef = v) (hp : tmps.getD q undef = .pointer (some ⟨g, 0, none⟩)) (hg : w.heap[g]? = some (.cells cs t fr))
    (hu : P.underlying ty = some d) (hd : (match d with | .struct _ | .array _ _ => true | _ => false) = true) (hi : (P.info? ty).map (·.size) = some cs.size) :
    (results fn tmps).run P w = .ok (.tuple #[.agg cs, v]) w := by
  have hp' : tmps[q]?.getD undef = .pointer (some ⟨g, 0, none⟩) := by simpa using hp
  have hv' : tmps[p]?.getD undef = v := by simpa using hv
  simp [results, h, hp', hv', asAddr, run_loadVar_row w g t ty cs fr d hg hu hd hi]
section
variable (f : Nat → Int) (n : Nat)
/-- A token of a class, or the beginning of one, as the document has it. -/
def classR (a k : Nat) : Option (Tk × Nat × Nat) :=
  if 0 < k ∧ hasB f n a [38, 38] = true then some (setT 1, k, a + 2)
  else if 0 < k ∧ hasB f n a [45, 45] = true then some (setT 2, k, a + 2)
  else if 0 < k ∧ hasB f n a [126, 126] = true then some (setT 3, k, a + 2)
  else if hasB f n a [91] = true then (if hasB f n (a + 1) [94] = true then some (classT true, k + 1, a + 2) else some (classT false, k + 1, a + 1))
  else if 0 < k ∧ hasB f n a [93] = true then some (bare 12, k - 1, a + 1)
  else if 0 < k ∧ hasB f n a [45] = true then some (bare 13, k, a + 1)
  else none
theorem bf {b : Bool} (h : ¬ b = true) : b = false := by cases b <;> simp_all
end
set_option maxHeartbeats 4000000 in
set_option maxRecDepth 100000 in
theorem rclass (rb tb : Nat) (ao : Option Addr) (n cap : Nat) (f : Nat → Int) (a k : Nat) (c p : Int) (st : Nat) (w : World) (h : RT w rb tb ao n cap f a k c p ⟨0, 0, 0, 0, [], false, st, 0⟩) (hl : a < n) (hk2 : k < 1000000) :
    Calls Tryz.prog 25 #[.pointer (some ⟨rb, 0, none⟩), .pointer (some ⟨tb, 0, none⟩)] w (RCl w rb tb ao n cap f a k c p st (classR f n a k)) := by
  have g1 : ∀ x : UInt8, ∀ q, hasB f n q [x] = true → q + 1 ≤ n := fun x q hh => by rw [has_1] at hh; have := ((at_eq f n _ _).1 hh).1; omega
  have g2 : ∀ x y : UInt8, hasB f n a [x, y] = true → a + 2 ≤ n := fun x y hh => by
    rw [has_2, Bool.and_eq_true] at hh; have := ((at_eq f n _ _).1 hh.2).1; omega
  unfold classR
  by_cases hk : 0 < k
  · by_cases q0 : hasB f n a [38, 38] = true
    · rw [if_pos ⟨hk, q0⟩]; exact rcl_s1 rb tb ao n cap f a k c p st w h hk hk2 (g2 _ _ q0) q0
    rw [if_neg (fun hh => q0 hh.2)]
    by_cases q1 : hasB f n a [45, 45] = true
    · rw [if_pos ⟨hk, q1⟩]; exact rcl_s2 rb tb ao n cap f a k c p st w h hk hk2 (g2 _ _ q1) (bf q0) q1
    rw [if_neg (fun hh => q1 hh.2)]
    by_cases q2 : hasB f n a [126, 126] = true
    · rw [if_pos ⟨hk, q2⟩]; exact rcl_s3 rb tb ao n cap f a k c p st w h hk hk2 (g2 _ _ q2) (bf q0) (bf q1) q2
    rw [if_neg (fun hh => q2 hh.2)]
    by_cases p0 : hasB f n a [91] = true
    · rw [if_pos p0]
      by_cases p1 : hasB f n (a + 1) [94] = true
      · rw [if_pos p1]; exact rcl_n rb tb ao n cap f a k c p st w h hk hk2 (by have := g1 _ _ p1; omega) (bf q0) (bf q1) (bf q2) p0 p1
      · rw [if_neg p1]; exact rcl_o rb tb ao n cap f a k c p st w h hk hk2 (g1 _ _ p0) (bf q0) (bf q1) (bf q2) p0 (bf p1)
    rw [if_neg p0]
    by_cases p1 : hasB f n a [93] = true
    · rw [if_pos ⟨hk, p1⟩]; exact rcl_e rb tb ao n cap f a k c p st w h hk hk2 (g1 _ _ p1) (bf q0) (bf q1) (bf q2) (bf p0) p1
    rw [if_neg (fun hh => p1 hh.2)]
    by_cases p2 : hasB f n a [45] = true
    · rw [if_pos ⟨hk, p2⟩]; exact rcl_d rb tb ao n cap f a k c p st w h hk hk2 (g1 _ _ p2) (bf q0) (bf q1) (bf q2) (bf p0) (bf p1) p2
    rw [if_neg (fun hh => p2 hh.2)]
    exact rcl_x rb tb ao n cap f a k c p st w h hk hk2 (bf q0) (bf q1) (bf q2) (bf p0) (bf p1) (bf p2)
  · have hk0 : k = 0 := by omega
    rw [if_neg (fun hh => hk hh.1), if_neg (fun hh => hk hh.1), if_neg (fun hh => hk hh.1)]
    by_cases p0 : hasB f n a [91] = true
    · rw [if_pos p0]
      by_cases p1 : hasB f n (a + 1) [94] = true
      · rw [if_pos p1]; exact rcl_n0 rb tb ao n cap f a k c p st w h hk0 hk2 (by have := g1 _ _ p1; omega) p0 p1
      · rw [if_neg p1]; exact rcl_o0 rb tb ao n cap f a k c p st w h hk0 hk2 (g1 _ _ p0) p0 (bf p1)
    rw [if_neg p0, if_neg (fun hh => hk hh.1), if_neg (fun hh => hk hh.1)]
    exact rcl_x0 rb tb ao n cap f a k c p st w h hk0 hk2 (bf p0)
end Go.Proofs.YtlgkfnecahgedaaGreatDoor.tok
end

section
/- The document's next: leaves. -/
set_option linter.unusedVariables false
set_option linter.unusedSimpArgs false
namespace Go.Proofs.YtlgkfnecahgedaaGreatDoor.tok
open Go.RowKit
open lin (BA Turns)

/-- How next ends. -/
def RNx (w : World) (rb : Nat) (ao : Option Addr) (n cap : Nat) (f : Nat → Int) (a : Nat) (c p : Int) : Out (Tk × Nat) → Ending → World → Prop
  | .ok t a', e, w' => e = .returned (.tuple #[Tk.val { t.1 with s := a, e := a' }, .bool true]) ∧ Rs w' rb ao n cap f a' t.2 c p ∧ Tn rb w w'
  | .no c' p', e, w' => (∃ t : Tk, e = .returned (.tuple #[t.val, .bool false])) ∧ (∃ a' k', Rs w' rb ao n cap f a' k' c' p') ∧ Tn rb w w'
set_option maxHeartbeats 4000000 in
set_option maxRecDepth 100000 in
theorem nx_class (rb : Nat) (ao : Option Addr) (n cap : Nat) (f : Nat → Int) (a k : Nat) (c p : Int) (w : World) (h : Rs w rb ao n cap f a k c p) (hl : a < n) (hk2 : k < 1000000) (t : Tk) (k' a' : Nat) (kc : classR f n a k = some (t, k', a')) :
    Calls Tryz.prog 17 #[.pointer (some ⟨rb, 0, none⟩)] w (RNx w rb ao n cap f a c p (.ok (t, k') a')) := by
  have KC : Hid (classR f n a k = some (t, k', a')) := kc
  clear kc
  have hrl := h.lt
  have hn := h.nn
  have ha := h.aa
  have hcc := h.cc
  have hcm := h.cm
  have HBL : Hid (∀ b off, ao = some ⟨b, off, none⟩ → b < w.heap.size) := fun b off e => h.bytes_lt e
  obtain ⟨W, hW⟩ : ∃ W, (w.alloc (.cells #[.int .i64 0, .int .i64 0, .int .i64 0, .int .i64 0, .string ⟨#[]⟩, .bool false, .int .i64 0, .int .i64 0] 32)).alloc (.cells #[.int .i64 0, .int .i64 0, .int .i64 0, .int .i64 0, .string ⟨#[]⟩, .bool false, .int .i64 (a : Int), .int .i64 0] 32) = W := ⟨_, rfl⟩
  have HBW : Hid (Below w.heap.size w W) := by rw [Hid, ← hW]; exact ((Below.refl _ _).alloc (Nat.le_refl _) _).alloc (by simp) _
  have hsW : W.heap.size = w.heap.size + 2 := by rw [← hW]; simp
  have HGR : Hid (W.heap[w.heap.size]? = some (.cells #[.int .i64 0, .int .i64 0, .int .i64 0, .int .i64 0, .string ⟨#[]⟩, .bool false, .int .i64 0, .int .i64 0] 32 (0, 0))) := by rw [Hid, ← hW]; exact (Below.heap_alloc _ _ _ (by simp)).trans (World.alloc_heap_new _ _)
  have hT : W.heap[w.heap.size + 1]? = some (.cells #[.int .i64 0, .int .i64 0, .int .i64 0, .int .i64 0, .string ⟨#[]⟩, .bool false, .int .i64 (a : Int), .int .i64 0] 32 (0, 0)) := by
    rw [← hW]
    have := World.alloc_heap_new (w.alloc (.cells #[.int .i64 0, .int .i64 0, .int .i64 0, .int .i64 0, .string ⟨#[]⟩, .bool false, .int .i64 0, .int .i64 0] 32)) (.cells #[.int .i64 0, .int .i64 0, .int .i64 0, .int .i64 0, .string ⟨#[]⟩, .bool false, .int .i64 (a : Int), .int .i64 0] 32)
    simpa using this
  have S0 : RT W rb (w.heap.size + 1) ao n cap f a k c p ⟨0, 0, 0, 0, [], false, a, 0⟩ := ⟨h.turns (D := fun _ => False) (.of_below HBW.out) id (fun _ _ _ => id), hT, by omega, fun b off e => by have := HBL.out b off e; omega⟩
  have U0 : T2 rb (w.heap.size + 1) W W := lin.Turns.refl _ W
  have hne : ¬ w.heap.size + 1 = rb := by omega
  have hne' : ¬ rb = w.heap.size + 1 := by omega
  have hne2 : ¬ w.heap.size = rb := by omega
  have hne3 : ¬ rb = w.heap.size := by omega
  have c1w := h.cells.2.1
  have HWE : Hid ((w.alloc (.cells #[.int .i64 0, .int .i64 0, .int .i64 0, .int .i64 0, .string ⟨#[]⟩, .bool false, .int .i64 0, .int .i64 0] 32)).alloc (.cells #[.int .i64 0, .int .i64 0, .int .i64 0, .int .i64 0, .string ⟨#[]⟩, .bool false, .int .i64 (a : Int), .int .i64 0] 32) = W) := hW
  clear hT h hW
  obtain ⟨⟨c0, c1, c2, z1, z2⟩, ⟨k0, k1, k2, k3, k4, k5, k6, k7⟩, ⟨f0, f1, f2, f3, f4, f5, f6, f7⟩⟩ := S0.cells
  go_enter Tryz.func17, Tryz.ntmps17
  have C := rclass rb (w.heap.size + 1) ao n cap f a k c p a W S0 hl hk2
  rw [KC.out, ← HWE.out] at C
  clear KC
  go_wp2_with fail
  refine C.mono ?_
  rintro e w1 ⟨rfl, S1, U1⟩
  rw [HWE.out] at U1
  clear C S0 U0
  clear c0 c1 c2 z1 z2 k0 k1 k2 k3 k4 k5 k6 k7 f0 f1 f2 f3 f4 f5 f6 f7
  obtain ⟨⟨c0, c1, c2, z1, z2⟩, ⟨k0, k1, k2, k3, k4, k5, k6, k7⟩, ⟨f0, f1, f2, f3, f4, f5, f6, f7⟩⟩ := S1.cells
  obtain ⟨t1, t2, t3, t4, t5, t6, t7, t8⟩ := t
  simp only [] at S1 k0 k1 k2 k3 k4 k5 k6 k7
  have GR := (U1.block w.heap.size (by omega) (by omega)).trans HGR.out
  obtain ⟨⟨g0, g1, g2, g3, g4, g5, g6, g7⟩, ⟨y0, y1, y2, y3, y4, y5, y6, y7⟩⟩ := blk8 GR
  have S9 := S1.t7 a'
  have U9 := T2.put U1 7 (.int .i64 ((a' : Nat) : Int))
  have GS : (w1.setCell ⟨w.heap.size + 1, 7, none⟩ (.int .i64 ((a' : Nat) : Int))).heap[w.heap.size]? = some (.cells #[.int .i64 0, .int .i64 0, .int .i64 0, .int .i64 0, .string ⟨#[]⟩, .bool false, .int .i64 0, .int .i64 0] 32 (0, 0)) := (heap_setCell_other _ _ _ _ (by show w.heap.size ≠ w.heap.size + 1; omega)).trans GR
  have GF := set8g GS (.int .i64 t1) (.int .i64 t2) (.int .i64 t3) (.int .i64 t4) (.string (BA t5)) (.bool t6) (.int .i64 ((a : Nat) : Int)) (.int .i64 ((a' : Nat) : Int))
  have SF := S9.rs.set8 (g := w.heap.size) (by omega) (fun b off e => by have := HBL.out b off e; omega) (.int .i64 t1) (.int .i64 t2) (.int .i64 t3) (.int .i64 t4) (.string (BA t5)) (.bool t6) (.int .i64 ((a : Nat) : Int)) (.int .i64 ((a' : Nat) : Int))
  have TF := Tn.set8 (tn_of HBW.out U9 (by omega)) (g := w.heap.size) (Nat.le_refl _) (.int .i64 t1) (.int .i64 t2) (.int .i64 t3) (.int .i64 t4) (.string (BA t5)) (.bool t6) (.int .i64 ((a : Nat) : Int)) (.int .i64 ((a' : Nat) : Int))
  clear S9 U9 GS GR S1 U1
  go_wp2
  exact bodyPost_ret (results2c Tryz.results17 _ _ (.bool true) w.heap.size _ _ _ _ rfl rfl GF Tryz.underlying32 rfl infoTok) rfl ⟨rfl, SF, TF⟩
end Go.Proofs.YtlgkfnecahgedaaGreatDoor.tok
end
