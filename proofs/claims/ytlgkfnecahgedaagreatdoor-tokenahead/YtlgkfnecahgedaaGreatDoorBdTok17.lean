/- Texts that the proof leans on, one behind the other. -/
import Derived.Test.YtlgkfnecahgedaaGreatDoorBdTok15
import Derived.Test.YtlgkfnecahgedaaGreatDoorBdTok10

section
/- The document's brackets that are none. -/
set_option linter.unusedVariables false
set_option linter.unusedSimpArgs false
namespace Go.Proofs.YtlgkfnecahgedaaGreatDoor.tok
open Go.RowKit
open lin (BA Turns)

set_option maxHeartbeats 4000000 in
set_option maxRecDepth 100000 in
theorem ropen_e1 (rb tb : Nat) (ao : Option Addr) (n cap : Nat) (f : Nat → Int) (a k : Nat) (c p : Int) (st : Nat) (w : World) (h : RT w rb tb ao n cap f a k c p ⟨0, 0, 0, 0, [], false, st, 0⟩) (hst : noneC f st = 133) (hl : a < n) (p0 : hasB f n (a + 1) [63] = true) (q0 : hasB f n (a + 1) [63, 58] = false) (q1 : hasB f n (a + 1) [63, 61] = false) (q2 : hasB f n (a + 1) [63, 33] = false) (q3 : hasB f n (a + 1) [63, 60, 61] = false) (q4 : hasB f n (a + 1) [63, 60, 33] = false) (q5 : hasB f n (a + 1) [63, 62] = false) (e1 : endsB f n (a + 1) [63, 58] = true) :
    Calls Tryz.prog 45 #[.pointer (some ⟨rb, 0, none⟩), .pointer (some ⟨tb, 0, none⟩)] w (REt w rb tb ao n cap f k c p st (.no 130 n)) := by
  have P0 : Hid (hasB f n (a + 1) [63] = true) := p0
  clear p0
  have Q0 : Hid (hasB f n (a + 1) [63, 58] = false) := q0
  clear q0
  have Q1 : Hid (hasB f n (a + 1) [63, 61] = false) := q1
  clear q1
  have Q2 : Hid (hasB f n (a + 1) [63, 33] = false) := q2
  clear q2
  have Q3 : Hid (hasB f n (a + 1) [63, 60, 61] = false) := q3
  clear q3
  have Q4 : Hid (hasB f n (a + 1) [63, 60, 33] = false) := q4
  clear q4
  have Q5 : Hid (hasB f n (a + 1) [63, 62] = false) := q5
  clear q5
  have E1 : Hid (endsB f n (a + 1) [63, 58] = true) := e1
  clear e1
  have hne : ¬ tb = rb := h.ne
  have hne' : ¬ rb = tb := fun e => h.ne e.symm
  have hn := h.rs.nn
  have ha := h.rs.aa
  have hcc := h.rs.cc
  have hcm := h.rs.cm
  have S0 := h
  have U0 : T2 rb tb w w := lin.Turns.refl _ w
  have hrl := h.rs.lt
  have htl : tb < w.heap.size := (Array.getElem?_eq_some_iff.1 h.tk).1
  clear h
  obtain ⟨⟨c0, c1, c2, z1, z2⟩, ⟨k0, k1, k2, k3, k4, k5, k6, k7⟩, ⟨f0, f1, f2, f3, f4, f5, f6, f7⟩⟩ := S0.cells
  go_enter Tryz.func45, Tryz.ntmps45
  have S1 := S0.t0 3
  have U1 := T2.put U0 0 (.int .i64 3)
  clear S0 U0
  have S2 := S1.put1 (x := ((a : Nat) : Int) + 1) (a' := a + 1) (by omega) (by omega)
  have U2 := T2.at U1 1 (.int .i64 (((a : Nat) : Int) + 1))
  clear S1 U1
  have C := has_t S2 U2 [63] (by decide) (by decide)
  rw [P0.out] at C
  go_wp2_with fail
  refine C.mono ?_
  rintro e w3 ⟨rfl, S3, U3⟩
  clear C S2 U2
  clear c0 c1 c2 z1 z2 k0 k1 k2 k3 k4 k5 k6 k7 f0 f1 f2 f3 f4 f5 f6 f7
  obtain ⟨⟨c0, c1, c2, z1, z2⟩, ⟨k0, k1, k2, k3, k4, k5, k6, k7⟩, ⟨f0, f1, f2, f3, f4, f5, f6, f7⟩⟩ := S3.cells
  have hsz : w.heap.size ≤ w3.heap.size := U3.size
  obtain ⟨W, hW⟩ : ∃ W, w3.alloc (.cells #[.string ⟨#[63, 58]⟩, .string ⟨#[63, 61]⟩, .string ⟨#[63, 33]⟩, .string ⟨#[63, 60, 61]⟩, .string ⟨#[63, 60, 33]⟩, .string ⟨#[63, 62]⟩] 9) = W := ⟨_, rfl⟩
  have BW : Below w3.heap.size w3 W := by rw [← hW]; exact (Below.refl _ _).alloc (Nat.le_refl _) _
  have HAW : Hid (T2 rb tb w W) := lin.Turns.trans U3 (lin.Turns.of_below BW)
  have S4 := S3.below BW
  have U4 : T2 rb tb W W := lin.Turns.refl _ W
  have GB0 : W.heap[w3.heap.size]? = some (.cells #[.string ⟨#[63, 58]⟩, .string ⟨#[63, 61]⟩, .string ⟨#[63, 33]⟩, .string ⟨#[63, 60, 61]⟩, .string ⟨#[63, 60, 33]⟩, .string ⟨#[63, 62]⟩] 9 (0, 0)) := by rw [← hW]; exact World.alloc_heap_new _ _
  have hgl : w3.heap.size < W.heap.size := by rw [← hW]; simp
  have HGN : Hid (¬ (w3.heap.size = rb ∨ w3.heap.size = tb)) := by unfold Hid; omega
  have HGL : Hid (w3.heap.size < W.heap.size) := hgl
  clear BW hgl hsz hrl htl
  clear S3 U3
  clear c0 c1 c2 z1 z2 k0 k1 k2 k3 k4 k5 k6 k7 f0 f1 f2 f3 f4 f5 f6 f7
  obtain ⟨⟨c0, c1, c2, z1, z2⟩, ⟨k0, k1, k2, k3, k4, k5, k6, k7⟩, ⟨f0, f1, f2, f3, f4, f5, f6, f7⟩⟩ := S4.cells
  have gb0 := cell_of_block GB0 0
  have gb1 := cell_of_block GB0 1
  have gb2 := cell_of_block GB0 2
  have gb3 := cell_of_block GB0 3
  have gb4 := cell_of_block GB0 4
  have gb5 := cell_of_block GB0 5
  simp only [List.getElem?_toArray, List.getElem?_cons_zero, List.getElem?_cons_succ] at gb0 gb1 gb2 gb3 gb4 gb5
  go_wp2
  refine wp_loop_rounds 7 ?_
  rw [rounds_succ]
  have C := has_t S4 U4 [63, 58] (by decide) (by decide)
  rw [Q0.out] at C
  go_wp2_with fail
  refine C.mono ?_
  rintro e w5 ⟨rfl, S5, U5⟩
  clear C S4 U4
  clear c0 c1 c2 z1 z2 k0 k1 k2 k3 k4 k5 k6 k7 f0 f1 f2 f3 f4 f5 f6 f7
  clear gb0 gb1 gb2 gb3 gb4 gb5
  have GB5 := (U5.block _ HGL.out HGN.out).trans GB0
  obtain ⟨⟨c0, c1, c2, z1, z2⟩, ⟨k0, k1, k2, k3, k4, k5, k6, k7⟩, ⟨f0, f1, f2, f3, f4, f5, f6, f7⟩⟩ := S5.cells
  have gb0 := cell_of_block GB5 0
  have gb1 := cell_of_block GB5 1
  have gb2 := cell_of_block GB5 2
  have gb3 := cell_of_block GB5 3
  have gb4 := cell_of_block GB5 4
  have gb5 := cell_of_block GB5 5
  simp only [List.getElem?_toArray, List.getElem?_cons_zero, List.getElem?_cons_succ] at gb0 gb1 gb2 gb3 gb4 gb5
  go_wp2
  rw [rounds_succ]
  have C := has_t S5 U5 [63, 61] (by decide) (by decide)
  rw [Q1.out] at C
  go_wp2_with fail
  refine C.mono ?_
  rintro e w6 ⟨rfl, S6, U6⟩
  clear C S5 U5
  clear c0 c1 c2 z1 z2 k0 k1 k2 k3 k4 k5 k6 k7 f0 f1 f2 f3 f4 f5 f6 f7
  clear gb0 gb1 gb2 gb3 gb4 gb5
  have GB6 := (U6.block _ HGL.out HGN.out).trans GB0
  obtain ⟨⟨c0, c1, c2, z1, z2⟩, ⟨k0, k1, k2, k3, k4, k5, k6, k7⟩, ⟨f0, f1, f2, f3, f4, f5, f6, f7⟩⟩ := S6.cells
  have gb0 := cell_of_block GB6 0
  have gb1 := cell_of_block GB6 1
  have gb2 := cell_of_block GB6 2
  have gb3 := cell_of_block GB6 3
  have gb4 := cell_of_block GB6 4
  have gb5 := cell_of_block GB6 5
  simp only [List.getElem?_toArray, List.getElem?_cons_zero, List.getElem?_cons_succ] at gb0 gb1 gb2 gb3 gb4 gb5
  go_wp2
  rw [rounds_succ]
  have C := has_t S6 U6 [63, 33] (by decide) (by decide)
  rw [Q2.out] at C
  go_wp2_with fail
  refine C.mono ?_
  rintro e w7 ⟨rfl, S7, U7⟩
  clear C S6 U6
  clear c0 c1 c2 z1 z2 k0 k1 k2 k3 k4 k5 k6 k7 f0 f1 f2 f3 f4 f5 f6 f7
  clear gb0 gb1 gb2 gb3 gb4 gb5
  have GB7 := (U7.block _ HGL.out HGN.out).trans GB0
  obtain ⟨⟨c0, c1, c2, z1, z2⟩, ⟨k0, k1, k2, k3, k4, k5, k6, k7⟩, ⟨f0, f1, f2, f3, f4, f5, f6, f7⟩⟩ := S7.cells
  have gb0 := cell_of_block GB7 0
  have gb1 := cell_of_block GB7 1
  have gb2 := cell_of_block GB7 2
  have gb3 := cell_of_block GB7 3
  have gb4 := cell_of_block GB7 4
  have gb5 := cell_of_block GB7 5
  simp only [List.getElem?_toArray, List.getElem?_cons_zero, List.getElem?_cons_succ] at gb0 gb1 gb2 gb3 gb4 gb5
  go_wp2
  rw [rounds_succ]
  have C := has_t S7 U7 [63, 60, 61] (by decide) (by decide)
  rw [Q3.out] at C
  go_wp2_with fail
  refine C.mono ?_
  rintro e w8 ⟨rfl, S8, U8⟩
  clear C S7 U7
  clear c0 c1 c2 z1 z2 k0 k1 k2 k3 k4 k5 k6 k7 f0 f1 f2 f3 f4 f5 f6 f7
  clear gb0 gb1 gb2 gb3 gb4 gb5
  have GB8 := (U8.block _ HGL.out HGN.out).trans GB0
  obtain ⟨⟨c0, c1, c2, z1, z2⟩, ⟨k0, k1, k2, k3, k4, k5, k6, k7⟩, ⟨f0, f1, f2, f3, f4, f5, f6, f7⟩⟩ := S8.cells
  have gb0 := cell_of_block GB8 0
  have gb1 := cell_of_block GB8 1
  have gb2 := cell_of_block GB8 2
  have gb3 := cell_of_block GB8 3
  have gb4 := cell_of_block GB8 4
  have gb5 := cell_of_block GB8 5
  simp only [List.getElem?_toArray, List.getElem?_cons_zero, List.getElem?_cons_succ] at gb0 gb1 gb2 gb3 gb4 gb5
  go_wp2
  rw [rounds_succ]
  have C := has_t S8 U8 [63, 60, 33] (by decide) (by decide)
  rw [Q4.out] at C
  go_wp2_with fail
  refine C.mono ?_
  rintro e w9 ⟨rfl, S9, U9⟩
  clear C S8 U8
  clear c0 c1 c2 z1 z2 k0 k1 k2 k3 k4 k5 k6 k7 f0 f1 f2 f3 f4 f5 f6 f7
  clear gb0 gb1 gb2 gb3 gb4 gb5
  have GB9 := (U9.block _ HGL.out HGN.out).trans GB0
  obtain ⟨⟨c0, c1, c2, z1, z2⟩, ⟨k0, k1, k2, k3, k4, k5, k6, k7⟩, ⟨f0, f1, f2, f3, f4, f5, f6, f7⟩⟩ := S9.cells
  have gb0 := cell_of_block GB9 0
  have gb1 := cell_of_block GB9 1
  have gb2 := cell_of_block GB9 2
  have gb3 := cell_of_block GB9 3
  have gb4 := cell_of_block GB9 4
  have gb5 := cell_of_block GB9 5
  simp only [List.getElem?_toArray, List.getElem?_cons_zero, List.getElem?_cons_succ] at gb0 gb1 gb2 gb3 gb4 gb5
  go_wp2
  rw [rounds_succ]
  have C := has_t S9 U9 [63, 62] (by decide) (by decide)
  rw [Q5.out] at C
  go_wp2_with fail
  refine C.mono ?_
  rintro e w10 ⟨rfl, S10, U10⟩
  clear C S9 U9
  clear c0 c1 c2 z1 z2 k0 k1 k2 k3 k4 k5 k6 k7 f0 f1 f2 f3 f4 f5 f6 f7
  clear gb0 gb1 gb2 gb3 gb4 gb5
  have GB10 := (U10.block _ HGL.out HGN.out).trans GB0
  obtain ⟨⟨c0, c1, c2, z1, z2⟩, ⟨k0, k1, k2, k3, k4, k5, k6, k7⟩, ⟨f0, f1, f2, f3, f4, f5, f6, f7⟩⟩ := S10.cells
  have gb0 := cell_of_block GB10 0
  have gb1 := cell_of_block GB10 1
  have gb2 := cell_of_block GB10 2
  have gb3 := cell_of_block GB10 3
  have gb4 := cell_of_block GB10 4
  have gb5 := cell_of_block GB10 5
  simp only [List.getElem?_toArray, List.getElem?_cons_zero, List.getElem?_cons_succ] at gb0 gb1 gb2 gb3 gb4 gb5
  go_wp2
  rw [rounds_succ]
  have C := ends_t S10 U10 [63, 58] (by decide)
  rw [E1.out] at C
  go_wp2_with fail
  refine C.mono ?_
  rintro e w11 ⟨rfl, S11, U11⟩
  clear C S10 U10
  clear c0 c1 c2 z1 z2 k0 k1 k2 k3 k4 k5 k6 k7 f0 f1 f2 f3 f4 f5 f6 f7
  clear gb0 gb1 gb2 gb3 gb4 gb5
  have GB11 := (U11.block _ HGL.out HGN.out).trans GB0
  obtain ⟨⟨c0, c1, c2, z1, z2⟩, ⟨k0, k1, k2, k3, k4, k5, k6, k7⟩, ⟨f0, f1, f2, f3, f4, f5, f6, f7⟩⟩ := S11.cells
  have gb0 := cell_of_block GB11 0
  have gb1 := cell_of_block GB11 1
  have gb2 := cell_of_block GB11 2
  have gb3 := cell_of_block GB11 3
  have gb4 := cell_of_block GB11 4
  have gb5 := cell_of_block GB11 5
  simp only [List.getElem?_toArray, List.getElem?_cons_zero, List.getElem?_cons_succ] at gb0 gb1 gb2 gb3 gb4 gb5
  have C := fail_t S11 U11 130 n
  go_wp2_with fail
  refine C.mono ?_
  rintro e w9 ⟨rfl, S9, U9⟩
  clear C
  go_wp2
  go_ret
  exact ⟨rfl, ⟨_, _, S9⟩, lin.Turns.trans HAW.out U9⟩
set_option maxHeartbeats 4000000 in
set_option maxRecDepth 100000 in
theorem ropen_e2 (rb tb : Nat) (ao : Option Addr) (n cap : Nat) (f : Nat → Int) (a k : Nat) (c p : Int) (st : Nat) (w : World) (h : RT w rb tb ao n cap f a k c p ⟨0, 0, 0, 0, [], false, st, 0⟩) (hst : noneC f st = 133) (hl : a < n) (p0 : hasB f n (a + 1) [63] = true) (q0 : hasB f n (a + 1) [63, 58] = false) (q1 : hasB f n (a + 1) [63, 61] = false) (q2 : hasB f n (a + 1) [63, 33] = false) (q3 : hasB f n (a + 1) [63, 60, 61] = false) (q4 : hasB f n (a + 1) [63, 60, 33] = false) (q5 : hasB f n (a + 1) [63, 62] = false) (e1 : endsB f n (a + 1) [63, 58] = false) (e2 : endsB f n (a + 1) [63, 60, 61] = true) :
    Calls Tryz.prog 45 #[.pointer (some ⟨rb, 0, none⟩), .pointer (some ⟨tb, 0, none⟩)] w (REt w rb tb ao n cap f k c p st (.no 130 n)) := by
  have P0 : Hid (hasB f n (a + 1) [63] = true) := p0
  clear p0
  have Q0 : Hid (hasB f n (a + 1) [63, 58] = false) := q0
  clear q0
  have Q1 : Hid (hasB f n (a + 1) [63, 61] = false) := q1
  clear q1
  have Q2 : Hid (hasB f n (a + 1) [63, 33] = false) := q2
  clear q2
  have Q3 : Hid (hasB f n (a + 1) [63, 60, 61] = false) := q3
  clear q3
  have Q4 : Hid (hasB f n (a + 1) [63, 60, 33] = false) := q4
  clear q4
  have Q5 : Hid (hasB f n (a + 1) [63, 62] = false) := q5
  clear q5
  have E1 : Hid (endsB f n (a + 1) [63, 58] = false) := e1
  clear e1
  have E2 : Hid (endsB f n (a + 1) [63, 60, 61] = true) := e2
  clear e2
  have hne : ¬ tb = rb := h.ne
  have hne' : ¬ rb = tb := fun e => h.ne e.symm
  have hn := h.rs.nn
  have ha := h.rs.aa
  have hcc := h.rs.cc
  have hcm := h.rs.cm
  have S0 := h
  have U0 : T2 rb tb w w := lin.Turns.refl _ w
  have hrl := h.rs.lt
  have htl : tb < w.heap.size := (Array.getElem?_eq_some_iff.1 h.tk).1
  clear h
  obtain ⟨⟨c0, c1, c2, z1, z2⟩, ⟨k0, k1, k2, k3, k4, k5, k6, k7⟩, ⟨f0, f1, f2, f3, f4, f5, f6, f7⟩⟩ := S0.cells
  go_enter Tryz.func45, Tryz.ntmps45
  have S1 := S0.t0 3
  have U1 := T2.put U0 0 (.int .i64 3)
  clear S0 U0
  have S2 := S1.put1 (x := ((a : Nat) : Int) + 1) (a' := a + 1) (by omega) (by omega)
  have U2 := T2.at U1 1 (.int .i64 (((a : Nat) : Int) + 1))
  clear S1 U1
  have C := has_t S2 U2 [63] (by decide) (by decide)
  rw [P0.out] at C
  go_wp2_with fail
  refine C.mono ?_
  rintro e w3 ⟨rfl, S3, U3⟩
  clear C S2 U2
  clear c0 c1 c2 z1 z2 k0 k1 k2 k3 k4 k5 k6 k7 f0 f1 f2 f3 f4 f5 f6 f7
  obtain ⟨⟨c0, c1, c2, z1, z2⟩, ⟨k0, k1, k2, k3, k4, k5, k6, k7⟩, ⟨f0, f1, f2, f3, f4, f5, f6, f7⟩⟩ := S3.cells
  have hsz : w.heap.size ≤ w3.heap.size := U3.size
  obtain ⟨W, hW⟩ : ∃ W, w3.alloc (.cells #[.string ⟨#[63, 58]⟩, .string ⟨#[63, 61]⟩, .string ⟨#[63, 33]⟩, .string ⟨#[63, 60, 61]⟩, .string ⟨#[63, 60, 33]⟩, .string ⟨#[63, 62]⟩] 9) = W := ⟨_, rfl⟩
  have BW : Below w3.heap.size w3 W := by rw [← hW]; exact (Below.refl _ _).alloc (Nat.le_refl _) _
  have HAW : Hid (T2 rb tb w W) := lin.Turns.trans U3 (lin.Turns.of_below BW)
  have S4 := S3.below BW
  have U4 : T2 rb tb W W := lin.Turns.refl _ W
  have GB0 : W.heap[w3.heap.size]? = some (.cells #[.string ⟨#[63, 58]⟩, .string ⟨#[63, 61]⟩, .string ⟨#[63, 33]⟩, .string ⟨#[63, 60, 61]⟩, .string ⟨#[63, 60, 33]⟩, .string ⟨#[63, 62]⟩] 9 (0, 0)) := by rw [← hW]; exact World.alloc_heap_new _ _
  have hgl : w3.heap.size < W.heap.size := by rw [← hW]; simp
  have HGN : Hid (¬ (w3.heap.size = rb ∨ w3.heap.size = tb)) := by unfold Hid; omega
  have HGL : Hid (w3.heap.size < W.heap.size) := hgl
  clear BW hgl hsz hrl htl
  clear S3 U3
  clear c0 c1 c2 z1 z2 k0 k1 k2 k3 k4 k5 k6 k7 f0 f1 f2 f3 f4 f5 f6 f7
  obtain ⟨⟨c0, c1, c2, z1, z2⟩, ⟨k0, k1, k2, k3, k4, k5, k6, k7⟩, ⟨f0, f1, f2, f3, f4, f5, f6, f7⟩⟩ := S4.cells
  have gb0 := cell_of_block GB0 0
  have gb1 := cell_of_block GB0 1
  have gb2 := cell_of_block GB0 2
  have gb3 := cell_of_block GB0 3
  have gb4 := cell_of_block GB0 4
  have gb5 := cell_of_block GB0 5
  simp only [List.getElem?_toArray, List.getElem?_cons_zero, List.getElem?_cons_succ] at gb0 gb1 gb2 gb3 gb4 gb5
  go_wp2
  refine wp_loop_rounds 7 ?_
  rw [rounds_succ]
  have C := has_t S4 U4 [63, 58] (by decide) (by decide)
  rw [Q0.out] at C
  go_wp2_with fail
  refine C.mono ?_
  rintro e w5 ⟨rfl, S5, U5⟩
  clear C S4 U4
  clear c0 c1 c2 z1 z2 k0 k1 k2 k3 k4 k5 k6 k7 f0 f1 f2 f3 f4 f5 f6 f7
  clear gb0 gb1 gb2 gb3 gb4 gb5
  have GB5 := (U5.block _ HGL.out HGN.out).trans GB0
  obtain ⟨⟨c0, c1, c2, z1, z2⟩, ⟨k0, k1, k2, k3, k4, k5, k6, k7⟩, ⟨f0, f1, f2, f3, f4, f5, f6, f7⟩⟩ := S5.cells
  have gb0 := cell_of_block GB5 0
  have gb1 := cell_of_block GB5 1
  have gb2 := cell_of_block GB5 2
  have gb3 := cell_of_block GB5 3
  have gb4 := cell_of_block GB5 4
  have gb5 := cell_of_block GB5 5
  simp only [List.getElem?_toArray, List.getElem?_cons_zero, List.getElem?_cons_succ] at gb0 gb1 gb2 gb3 gb4 gb5
  go_wp2
  rw [rounds_succ]
  have C := has_t S5 U5 [63, 61] (by decide) (by decide)
  rw [Q1.out] at C
  go_wp2_with fail
  refine C.mono ?_
  rintro e w6 ⟨rfl, S6, U6⟩
  clear C S5 U5
  clear c0 c1 c2 z1 z2 k0 k1 k2 k3 k4 k5 k6 k7 f0 f1 f2 f3 f4 f5 f6 f7
  clear gb0 gb1 gb2 gb3 gb4 gb5
  have GB6 := (U6.block _ HGL.out HGN.out).trans GB0
  obtain ⟨⟨c0, c1, c2, z1, z2⟩, ⟨k0, k1, k2, k3, k4, k5, k6, k7⟩, ⟨f0, f1, f2, f3, f4, f5, f6, f7⟩⟩ := S6.cells
  have gb0 := cell_of_block GB6 0
  have gb1 := cell_of_block GB6 1
  have gb2 := cell_of_block GB6 2
  have gb3 := cell_of_block GB6 3
  have gb4 := cell_of_block GB6 4
  have gb5 := cell_of_block GB6 5
  simp only [List.getElem?_toArray, List.getElem?_cons_zero, List.getElem?_cons_succ] at gb0 gb1 gb2 gb3 gb4 gb5
  go_wp2
  rw [rounds_succ]
  have C := has_t S6 U6 [63, 33] (by decide) (by decide)
  rw [Q2.out] at C
  go_wp2_with fail
  refine C.mono ?_
  rintro e w7 ⟨rfl, S7, U7⟩
  clear C S6 U6
  clear c0 c1 c2 z1 z2 k0 k1 k2 k3 k4 k5 k6 k7 f0 f1 f2 f3 f4 f5 f6 f7
  clear gb0 gb1 gb2 gb3 gb4 gb5
  have GB7 := (U7.block _ HGL.out HGN.out).trans GB0
  obtain ⟨⟨c0, c1, c2, z1, z2⟩, ⟨k0, k1, k2, k3, k4, k5, k6, k7⟩, ⟨f0, f1, f2, f3, f4, f5, f6, f7⟩⟩ := S7.cells
  have gb0 := cell_of_block GB7 0
  have gb1 := cell_of_block GB7 1
  have gb2 := cell_of_block GB7 2
  have gb3 := cell_of_block GB7 3
  have gb4 := cell_of_block GB7 4
  have gb5 := cell_of_block GB7 5
  simp only [List.getElem?_toArray, List.getElem?_cons_zero, List.getElem?_cons_succ] at gb0 gb1 gb2 gb3 gb4 gb5
  go_wp2
  rw [rounds_succ]
  have C := has_t S7 U7 [63, 60, 61] (by decide) (by decide)
  rw [Q3.out] at C
  go_wp2_with fail
  refine C.mono ?_
  rintro e w8 ⟨rfl, S8, U8⟩
  clear C S7 U7
  clear c0 c1 c2 z1 z2 k0 k1 k2 k3 k4 k5 k6 k7 f0 f1 f2 f3 f4 f5 f6 f7
  clear gb0 gb1 gb2 gb3 gb4 gb5
  have GB8 := (U8.block _ HGL.out HGN.out).trans GB0
  obtain ⟨⟨c0, c1, c2, z1, z2⟩, ⟨k0, k1, k2, k3, k4, k5, k6, k7⟩, ⟨f0, f1, f2, f3, f4, f5, f6, f7⟩⟩ := S8.cells
  have gb0 := cell_of_block GB8 0
  have gb1 := cell_of_block GB8 1
  have gb2 := cell_of_block GB8 2
  have gb3 := cell_of_block GB8 3
  have gb4 := cell_of_block GB8 4
  have gb5 := cell_of_block GB8 5
  simp only [List.getElem?_toArray, List.getElem?_cons_zero, List.getElem?_cons_succ] at gb0 gb1 gb2 gb3 gb4 gb5
  go_wp2
  rw [rounds_succ]
  have C := has_t S8 U8 [63, 60, 33] (by decide) (by decide)
  rw [Q4.out] at C
  go_wp2_with fail
  refine C.mono ?_
  rintro e w9 ⟨rfl, S9, U9⟩
  clear C S8 U8
  clear c0 c1 c2 z1 z2 k0 k1 k2 k3 k4 k5 k6 k7 f0 f1 f2 f3 f4 f5 f6 f7
  clear gb0 gb1 gb2 gb3 gb4 gb5
  have GB9 := (U9.block _ HGL.out HGN.out).trans GB0
  obtain ⟨⟨c0, c1, c2, z1, z2⟩, ⟨k0, k1, k2, k3, k4, k5, k6, k7⟩, ⟨f0, f1, f2, f3, f4, f5, f6, f7⟩⟩ := S9.cells
  have gb0 := cell_of_block GB9 0
  have gb1 := cell_of_block GB9 1
  have gb2 := cell_of_block GB9 2
  have gb3 := cell_of_block GB9 3
  have gb4 := cell_of_block GB9 4
  have gb5 := cell_of_block GB9 5
  simp only [List.getElem?_toArray, List.getElem?_cons_zero, List.getElem?_cons_succ] at gb0 gb1 gb2 gb3 gb4 gb5
  go_wp2
  rw [rounds_succ]
  have C := has_t S9 U9 [63, 62] (by decide) (by decide)
  rw [Q5.out] at C
  go_wp2_with fail
  refine C.mono ?_
  rintro e w10 ⟨rfl, S10, U10⟩
  clear C S9 U9
  clear c0 c1 c2 z1 z2 k0 k1 k2 k3 k4 k5 k6 k7 f0 f1 f2 f3 f4 f5 f6 f7
  clear gb0 gb1 gb2 gb3 gb4 gb5
  have GB10 := (U10.block _ HGL.out HGN.out).trans GB0
  obtain ⟨⟨c0, c1, c2, z1, z2⟩, ⟨k0, k1, k2, k3, k4, k5, k6, k7⟩, ⟨f0, f1, f2, f3, f4, f5, f6, f7⟩⟩ := S10.cells
  have gb0 := cell_of_block GB10 0
  have gb1 := cell_of_block GB10 1
  have gb2 := cell_of_block GB10 2
  have gb3 := cell_of_block GB10 3
  have gb4 := cell_of_block GB10 4
  have gb5 := cell_of_block GB10 5
  simp only [List.getElem?_toArray, List.getElem?_cons_zero, List.getElem?_cons_succ] at gb0 gb1 gb2 gb3 gb4 gb5
  go_wp2
  rw [rounds_succ]
  have C := ends_t S10 U10 [63, 58] (by decide)
  rw [E1.out] at C
  go_wp2_with fail
  refine C.mono ?_
  rintro e w11 ⟨rfl, S11, U11⟩
  clear C S10 U10
  clear c0 c1 c2 z1 z2 k0 k1 k2 k3 k4 k5 k6 k7 f0 f1 f2 f3 f4 f5 f6 f7
  clear gb0 gb1 gb2 gb3 gb4 gb5
  have GB11 := (U11.block _ HGL.out HGN.out).trans GB0
  obtain ⟨⟨c0, c1, c2, z1, z2⟩, ⟨k0, k1, k2, k3, k4, k5, k6, k7⟩, ⟨f0, f1, f2, f3, f4, f5, f6, f7⟩⟩ := S11.cells
  have gb0 := cell_of_block GB11 0
  have gb1 := cell_of_block GB11 1
  have gb2 := cell_of_block GB11 2
  have gb3 := cell_of_block GB11 3
  have gb4 := cell_of_block GB11 4
  have gb5 := cell_of_block GB11 5
  simp only [List.getElem?_toArray, List.getElem?_cons_zero, List.getElem?_cons_succ] at gb0 gb1 gb2 gb3 gb4 gb5
  have C := ends_t S11 U11 [63, 60, 61] (by decide)
  rw [E2.out] at C
  go_wp2_with fail
  refine C.mono ?_
  rintro e w12 ⟨rfl, S12, U12⟩
  clear C S11 U11
  clear c0 c1 c2 z1 z2 k0 k1 k2 k3 k4 k5 k6 k7 f0 f1 f2 f3 f4 f5 f6 f7
  clear gb0 gb1 gb2 gb3 gb4 gb5
  have GB12 := (U12.block _ HGL.out HGN.out).trans GB0
  obtain ⟨⟨c0, c1, c2, z1, z2⟩, ⟨k0, k1, k2, k3, k4, k5, k6, k7⟩, ⟨f0, f1, f2, f3, f4, f5, f6, f7⟩⟩ := S12.cells
  have gb0 := cell_of_block GB12 0
  have gb1 := cell_of_block GB12 1
  have gb2 := cell_of_block GB12 2
  have gb3 := cell_of_block GB12 3
  have gb4 := cell_of_block GB12 4
  have gb5 := cell_of_block GB12 5
  simp only [List.getElem?_toArray, List.getElem?_cons_zero, List.getElem?_cons_succ] at gb0 gb1 gb2 gb3 gb4 gb5
  have C := fail_t S12 U12 130 n
  go_wp2_with fail
  refine C.mono ?_
  rintro e w9 ⟨rfl, S9, U9⟩
  clear C
  go_wp2
  go_ret
  exact ⟨rfl, ⟨_, _, S9⟩, lin.Turns.trans HAW.out U9⟩
end Go.Proofs.YtlgkfnecahgedaaGreatDoor.tok
end

section
/- The document's brackets that are none, or have a name. -/
set_option linter.unusedVariables false
set_option linter.unusedSimpArgs false
namespace Go.Proofs.YtlgkfnecahgedaaGreatDoor.tok
open Go.RowKit
open lin (BA Turns)

set_option maxHeartbeats 4000000 in
set_option maxRecDepth 100000 in
theorem ropen_no (rb tb : Nat) (ao : Option Addr) (n cap : Nat) (f : Nat → Int) (a k : Nat) (c p : Int) (st : Nat) (w : World) (h : RT w rb tb ao n cap f a k c p ⟨0, 0, 0, 0, [], false, st, 0⟩) (hst : noneC f st = 133) (hl : a < n) (p0 : hasB f n (a + 1) [63] = true) (q0 : hasB f n (a + 1) [63, 58] = false) (q1 : hasB f n (a + 1) [63, 61] = false) (q2 : hasB f n (a + 1) [63, 33] = false) (q3 : hasB f n (a + 1) [63, 60, 61] = false) (q4 : hasB f n (a + 1) [63, 60, 33] = false) (q5 : hasB f n (a + 1) [63, 62] = false) (e1 : endsB f n (a + 1) [63, 58] = false) (e2 : endsB f n (a + 1) [63, 60, 61] = false) (l1 : hasB f n (a + 1) [63, 60] = false) :
    Calls Tryz.prog 45 #[.pointer (some ⟨rb, 0, none⟩), .pointer (some ⟨tb, 0, none⟩)] w (REt w rb tb ao n cap f k c p st (.no 133 st)) := by
  have P0 : Hid (hasB f n (a + 1) [63] = true) := p0
  clear p0
  have Q0 : Hid (hasB f n (a + 1) [63, 58] = false) := q0
  clear q0
  have Q1 : Hid (hasB f n (a + 1) [63, 61] = false) := q1
  clear q1
  have Q2 : Hid (hasB f n (a + 1) [63, 33] = false) := q2
  clear q2
  have Q3 : Hid (hasB f n (a + 1) [63, 60, 61] = false) := q3
  clear q3
  have Q4 : Hid (hasB f n (a + 1) [63, 60, 33] = false) := q4
  clear q4
  have Q5 : Hid (hasB f n (a + 1) [63, 62] = false) := q5
  clear q5
  have E1 : Hid (endsB f n (a + 1) [63, 58] = false) := e1
  clear e1
  have E2 : Hid (endsB f n (a + 1) [63, 60, 61] = false) := e2
  clear e2
  have L1 : Hid (hasB f n (a + 1) [63, 60] = false) := l1
  clear l1
  have hne : ¬ tb = rb := h.ne
  have hne' : ¬ rb = tb := fun e => h.ne e.symm
  have hn := h.rs.nn
  have ha := h.rs.aa
  have hcc := h.rs.cc
  have hcm := h.rs.cm
  have S0 := h
  have U0 : T2 rb tb w w := lin.Turns.refl _ w
  have hrl := h.rs.lt
  have htl : tb < w.heap.size := (Array.getElem?_eq_some_iff.1 h.tk).1
  clear h
  obtain ⟨⟨c0, c1, c2, z1, z2⟩, ⟨k0, k1, k2, k3, k4, k5, k6, k7⟩, ⟨f0, f1, f2, f3, f4, f5, f6, f7⟩⟩ := S0.cells
  go_enter Tryz.func45, Tryz.ntmps45
  have S1 := S0.t0 3
  have U1 := T2.put U0 0 (.int .i64 3)
  clear S0 U0
  have S2 := S1.put1 (x := ((a : Nat) : Int) + 1) (a' := a + 1) (by omega) (by omega)
  have U2 := T2.at U1 1 (.int .i64 (((a : Nat) : Int) + 1))
  clear S1 U1
  have C := has_t S2 U2 [63] (by decide) (by decide)
  rw [P0.out] at C
  go_wp2_with fail
  refine C.mono ?_
  rintro e w3 ⟨rfl, S3, U3⟩
  clear C S2 U2
  clear c0 c1 c2 z1 z2 k0 k1 k2 k3 k4 k5 k6 k7 f0 f1 f2 f3 f4 f5 f6 f7
  obtain ⟨⟨c0, c1, c2, z1, z2⟩, ⟨k0, k1, k2, k3, k4, k5, k6, k7⟩, ⟨f0, f1, f2, f3, f4, f5, f6, f7⟩⟩ := S3.cells
  have hsz : w.heap.size ≤ w3.heap.size := U3.size
  obtain ⟨W, hW⟩ : ∃ W, w3.alloc (.cells #[.string ⟨#[63, 58]⟩, .string ⟨#[63, 61]⟩, .string ⟨#[63, 33]⟩, .string ⟨#[63, 60, 61]⟩, .string ⟨#[63, 60, 33]⟩, .string ⟨#[63, 62]⟩] 9) = W := ⟨_, rfl⟩
  have BW : Below w3.heap.size w3 W := by rw [← hW]; exact (Below.refl _ _).alloc (Nat.le_refl _) _
  have HAW : Hid (T2 rb tb w W) := lin.Turns.trans U3 (lin.Turns.of_below BW)
  have S4 := S3.below BW
  have U4 : T2 rb tb W W := lin.Turns.refl _ W
  have GB0 : W.heap[w3.heap.size]? = some (.cells #[.string ⟨#[63, 58]⟩, .string ⟨#[63, 61]⟩, .string ⟨#[63, 33]⟩, .string ⟨#[63, 60, 61]⟩, .string ⟨#[63, 60, 33]⟩, .string ⟨#[63, 62]⟩] 9 (0, 0)) := by rw [← hW]; exact World.alloc_heap_new _ _
  have hgl : w3.heap.size < W.heap.size := by rw [← hW]; simp
  have HGN : Hid (¬ (w3.heap.size = rb ∨ w3.heap.size = tb)) := by unfold Hid; omega
  have HGL : Hid (w3.heap.size < W.heap.size) := hgl
  clear BW hgl hsz hrl htl
  clear S3 U3
  clear c0 c1 c2 z1 z2 k0 k1 k2 k3 k4 k5 k6 k7 f0 f1 f2 f3 f4 f5 f6 f7
  obtain ⟨⟨c0, c1, c2, z1, z2⟩, ⟨k0, k1, k2, k3, k4, k5, k6, k7⟩, ⟨f0, f1, f2, f3, f4, f5, f6, f7⟩⟩ := S4.cells
  have gb0 := cell_of_block GB0 0
  have gb1 := cell_of_block GB0 1
  have gb2 := cell_of_block GB0 2
  have gb3 := cell_of_block GB0 3
  have gb4 := cell_of_block GB0 4
  have gb5 := cell_of_block GB0 5
  simp only [List.getElem?_toArray, List.getElem?_cons_zero, List.getElem?_cons_succ] at gb0 gb1 gb2 gb3 gb4 gb5
  go_wp2
  refine wp_loop_rounds 7 ?_
  rw [rounds_succ]
  have C := has_t S4 U4 [63, 58] (by decide) (by decide)
  rw [Q0.out] at C
  go_wp2_with fail
  refine C.mono ?_
  rintro e w5 ⟨rfl, S5, U5⟩
  clear C S4 U4
  clear c0 c1 c2 z1 z2 k0 k1 k2 k3 k4 k5 k6 k7 f0 f1 f2 f3 f4 f5 f6 f7
  clear gb0 gb1 gb2 gb3 gb4 gb5
  have GB5 := (U5.block _ HGL.out HGN.out).trans GB0
  obtain ⟨⟨c0, c1, c2, z1, z2⟩, ⟨k0, k1, k2, k3, k4, k5, k6, k7⟩, ⟨f0, f1, f2, f3, f4, f5, f6, f7⟩⟩ := S5.cells
  have gb0 := cell_of_block GB5 0
  have gb1 := cell_of_block GB5 1
  have gb2 := cell_of_block GB5 2
  have gb3 := cell_of_block GB5 3
  have gb4 := cell_of_block GB5 4
  have gb5 := cell_of_block GB5 5
  simp only [List.getElem?_toArray, List.getElem?_cons_zero, List.getElem?_cons_succ] at gb0 gb1 gb2 gb3 gb4 gb5
  go_wp2
  rw [rounds_succ]
  have C := has_t S5 U5 [63, 61] (by decide) (by decide)
  rw [Q1.out] at C
  go_wp2_with fail
  refine C.mono ?_
  rintro e w6 ⟨rfl, S6, U6⟩
  clear C S5 U5
  clear c0 c1 c2 z1 z2 k0 k1 k2 k3 k4 k5 k6 k7 f0 f1 f2 f3 f4 f5 f6 f7
  clear gb0 gb1 gb2 gb3 gb4 gb5
  have GB6 := (U6.block _ HGL.out HGN.out).trans GB0
  obtain ⟨⟨c0, c1, c2, z1, z2⟩, ⟨k0, k1, k2, k3, k4, k5, k6, k7⟩, ⟨f0, f1, f2, f3, f4, f5, f6, f7⟩⟩ := S6.cells
  have gb0 := cell_of_block GB6 0
  have gb1 := cell_of_block GB6 1
  have gb2 := cell_of_block GB6 2
  have gb3 := cell_of_block GB6 3
  have gb4 := cell_of_block GB6 4
  have gb5 := cell_of_block GB6 5
  simp only [List.getElem?_toArray, List.getElem?_cons_zero, List.getElem?_cons_succ] at gb0 gb1 gb2 gb3 gb4 gb5
  go_wp2
  rw [rounds_succ]
  have C := has_t S6 U6 [63, 33] (by decide) (by decide)
  rw [Q2.out] at C
  go_wp2_with fail
  refine C.mono ?_
  rintro e w7 ⟨rfl, S7, U7⟩
  clear C S6 U6
  clear c0 c1 c2 z1 z2 k0 k1 k2 k3 k4 k5 k6 k7 f0 f1 f2 f3 f4 f5 f6 f7
  clear gb0 gb1 gb2 gb3 gb4 gb5
  have GB7 := (U7.block _ HGL.out HGN.out).trans GB0
  obtain ⟨⟨c0, c1, c2, z1, z2⟩, ⟨k0, k1, k2, k3, k4, k5, k6, k7⟩, ⟨f0, f1, f2, f3, f4, f5, f6, f7⟩⟩ := S7.cells
  have gb0 := cell_of_block GB7 0
  have gb1 := cell_of_block GB7 1
  have gb2 := cell_of_block GB7 2
  have gb3 := cell_of_block GB7 3
  have gb4 := cell_of_block GB7 4
  have gb5 := cell_of_block GB7 5
  simp only [List.getElem?_toArray, List.getElem?_cons_zero, List.getElem?_cons_succ] at gb0 gb1 gb2 gb3 gb4 gb5
  go_wp2
  rw [rounds_succ]
  have C := has_t S7 U7 [63, 60, 61] (by decide) (by decide)
  rw [Q3.out] at C
  go_wp2_with fail
  refine C.mono ?_
  rintro e w8 ⟨rfl, S8, U8⟩
  clear C S7 U7
  clear c0 c1 c2 z1 z2 k0 k1 k2 k3 k4 k5 k6 k7 f0 f1 f2 f3 f4 f5 f6 f7
  clear gb0 gb1 gb2 gb3 gb4 gb5
  have GB8 := (U8.block _ HGL.out HGN.out).trans GB0
  obtain ⟨⟨c0, c1, c2, z1, z2⟩, ⟨k0, k1, k2, k3, k4, k5, k6, k7⟩, ⟨f0, f1, f2, f3, f4, f5, f6, f7⟩⟩ := S8.cells
  have gb0 := cell_of_block GB8 0
  have gb1 := cell_of_block GB8 1
  have gb2 := cell_of_block GB8 2
  have gb3 := cell_of_block GB8 3
  have gb4 := cell_of_block GB8 4
  have gb5 := cell_of_block GB8 5
  simp only [List.getElem?_toArray, List.getElem?_cons_zero, List.getElem?_cons_succ] at gb0 gb1 gb2 gb3 gb4 gb5
  go_wp2
  rw [rounds_succ]
  have C := has_t S8 U8 [63, 60, 33] (by decide) (by decide)
  rw [Q4.out] at C
  go_wp2_with fail
  refine C.mono ?_
  rintro e w9 ⟨rfl, S9, U9⟩
  clear C S8 U8
  clear c0 c1 c2 z1 z2 k0 k1 k2 k3 k4 k5 k6 k7 f0 f1 f2 f3 f4 f5 f6 f7
  clear gb0 gb1 gb2 gb3 gb4 gb5
  have GB9 := (U9.block _ HGL.out HGN.out).trans GB0
  obtain ⟨⟨c0, c1, c2, z1, z2⟩, ⟨k0, k1, k2, k3, k4, k5, k6, k7⟩, ⟨f0, f1, f2, f3, f4, f5, f6, f7⟩⟩ := S9.cells
  have gb0 := cell_of_block GB9 0
  have gb1 := cell_of_block GB9 1
  have gb2 := cell_of_block GB9 2
  have gb3 := cell_of_block GB9 3
  have gb4 := cell_of_block GB9 4
  have gb5 := cell_of_block GB9 5
  simp only [List.getElem?_toArray, List.getElem?_cons_zero, List.getElem?_cons_succ] at gb0 gb1 gb2 gb3 gb4 gb5
  go_wp2
  rw [rounds_succ]
  have C := has_t S9 U9 [63, 62] (by decide) (by decide)
  rw [Q5.out] at C
  go_wp2_with fail
  refine C.mono ?_
  rintro e w10 ⟨rfl, S10, U10⟩
  clear C S9 U9
  clear c0 c1 c2 z1 z2 k0 k1 k2 k3 k4 k5 k6 k7 f0 f1 f2 f3 f4 f5 f6 f7
  clear gb0 gb1 gb2 gb3 gb4 gb5
  have GB10 := (U10.block _ HGL.out HGN.out).trans GB0
  obtain ⟨⟨c0, c1, c2, z1, z2⟩, ⟨k0, k1, k2, k3, k4, k5, k6, k7⟩, ⟨f0, f1, f2, f3, f4, f5, f6, f7⟩⟩ := S10.cells
  have gb0 := cell_of_block GB10 0
  have gb1 := cell_of_block GB10 1
  have gb2 := cell_of_block GB10 2
  have gb3 := cell_of_block GB10 3
  have gb4 := cell_of_block GB10 4
  have gb5 := cell_of_block GB10 5
  simp only [List.getElem?_toArray, List.getElem?_cons_zero, List.getElem?_cons_succ] at gb0 gb1 gb2 gb3 gb4 gb5
  go_wp2
  rw [rounds_succ]
  have C := ends_t S10 U10 [63, 58] (by decide)
  rw [E1.out] at C
  go_wp2_with fail
  refine C.mono ?_
  rintro e w11 ⟨rfl, S11, U11⟩
  clear C S10 U10
  clear c0 c1 c2 z1 z2 k0 k1 k2 k3 k4 k5 k6 k7 f0 f1 f2 f3 f4 f5 f6 f7
  clear gb0 gb1 gb2 gb3 gb4 gb5
  have GB11 := (U11.block _ HGL.out HGN.out).trans GB0
  obtain ⟨⟨c0, c1, c2, z1, z2⟩, ⟨k0, k1, k2, k3, k4, k5, k6, k7⟩, ⟨f0, f1, f2, f3, f4, f5, f6, f7⟩⟩ := S11.cells
  have gb0 := cell_of_block GB11 0
  have gb1 := cell_of_block GB11 1
  have gb2 := cell_of_block GB11 2
  have gb3 := cell_of_block GB11 3
  have gb4 := cell_of_block GB11 4
  have gb5 := cell_of_block GB11 5
  simp only [List.getElem?_toArray, List.getElem?_cons_zero, List.getElem?_cons_succ] at gb0 gb1 gb2 gb3 gb4 gb5
  have C := ends_t S11 U11 [63, 60, 61] (by decide)
  rw [E2.out] at C
  go_wp2_with fail
  refine C.mono ?_
  rintro e w12 ⟨rfl, S12, U12⟩
  clear C S11 U11
  clear c0 c1 c2 z1 z2 k0 k1 k2 k3 k4 k5 k6 k7 f0 f1 f2 f3 f4 f5 f6 f7
  clear gb0 gb1 gb2 gb3 gb4 gb5
  have GB12 := (U12.block _ HGL.out HGN.out).trans GB0
  obtain ⟨⟨c0, c1, c2, z1, z2⟩, ⟨k0, k1, k2, k3, k4, k5, k6, k7⟩, ⟨f0, f1, f2, f3, f4, f5, f6, f7⟩⟩ := S12.cells
  have gb0 := cell_of_block GB12 0
  have gb1 := cell_of_block GB12 1
  have gb2 := cell_of_block GB12 2
  have gb3 := cell_of_block GB12 3
  have gb4 := cell_of_block GB12 4
  have gb5 := cell_of_block GB12 5
  simp only [List.getElem?_toArray, List.getElem?_cons_zero, List.getElem?_cons_succ] at gb0 gb1 gb2 gb3 gb4 gb5
  have C := has_t S12 U12 [63, 60] (by decide) (by decide)
  rw [L1.out] at C
  go_wp2_with fail
  refine C.mono ?_
  rintro e w13 ⟨rfl, S13, U13⟩
  clear C S12 U12
  clear c0 c1 c2 z1 z2 k0 k1 k2 k3 k4 k5 k6 k7 f0 f1 f2 f3 f4 f5 f6 f7
  clear gb0 gb1 gb2 gb3 gb4 gb5
  have GB13 := (U13.block _ HGL.out HGN.out).trans GB0
  obtain ⟨⟨c0, c1, c2, z1, z2⟩, ⟨k0, k1, k2, k3, k4, k5, k6, k7⟩, ⟨f0, f1, f2, f3, f4, f5, f6, f7⟩⟩ := S13.cells
  have gb0 := cell_of_block GB13 0
  have gb1 := cell_of_block GB13 1
  have gb2 := cell_of_block GB13 2
  have gb3 := cell_of_block GB13 3
  have gb4 := cell_of_block GB13 4
  have gb5 := cell_of_block GB13 5
  simp only [List.getElem?_toArray, List.getElem?_cons_zero, List.getElem?_cons_succ] at gb0 gb1 gb2 gb3 gb4 gb5
  have C := fail_t S13 U13 133 st
  go_wp2_with fail
  refine C.mono ?_
  rintro e w9 ⟨rfl, S9, U9⟩
  clear C
  go_wp2
  go_ret
  exact ⟨rfl, ⟨_, _, S9⟩, lin.Turns.trans HAW.out U9⟩
set_option maxHeartbeats 4000000 in
set_option maxRecDepth 100000 in
theorem ropen_nm (rb tb : Nat) (ao : Option Addr) (n cap : Nat) (f : Nat → Int) (a k : Nat) (c p : Int) (st : Nat) (w : World) (h : RT w rb tb ao n cap f a k c p ⟨0, 0, 0, 0, [], false, st, 0⟩) (hst : noneC f st = 133) (hl : a < n) (hl3 : a + 1 + 2 ≤ n) (p0 : hasB f n (a + 1) [63] = true) (q0 : hasB f n (a + 1) [63, 58] = false) (q1 : hasB f n (a + 1) [63, 61] = false) (q2 : hasB f n (a + 1) [63, 33] = false) (q3 : hasB f n (a + 1) [63, 60, 61] = false) (q4 : hasB f n (a + 1) [63, 60, 33] = false) (q5 : hasB f n (a + 1) [63, 62] = false) (e1 : endsB f n (a + 1) [63, 58] = false) (e2 : endsB f n (a + 1) [63, 60, 61] = false) (l1 : hasB f n (a + 1) [63, 60] = true) :
    Calls Tryz.prog 45 #[.pointer (some ⟨rb, 0, none⟩), .pointer (some ⟨tb, 0, none⟩)] w (REt w rb tb ao n cap f k c p st ((name f n st (a + 1 + 2)).bind fun s a => .ok ⟨3, 2, 0, 0, s, false, 0, 0⟩ a)) := by
  have P0 : Hid (hasB f n (a + 1) [63] = true) := p0
  clear p0
  have Q0 : Hid (hasB f n (a + 1) [63, 58] = false) := q0
  clear q0
  have Q1 : Hid (hasB f n (a + 1) [63, 61] = false) := q1
  clear q1
  have Q2 : Hid (hasB f n (a + 1) [63, 33] = false) := q2
  clear q2
  have Q3 : Hid (hasB f n (a + 1) [63, 60, 61] = false) := q3
  clear q3
  have Q4 : Hid (hasB f n (a + 1) [63, 60, 33] = false) := q4
  clear q4
  have Q5 : Hid (hasB f n (a + 1) [63, 62] = false) := q5
  clear q5
  have E1 : Hid (endsB f n (a + 1) [63, 58] = false) := e1
  clear e1
  have E2 : Hid (endsB f n (a + 1) [63, 60, 61] = false) := e2
  clear e2
  have L1 : Hid (hasB f n (a + 1) [63, 60] = true) := l1
  clear l1
  obtain ⟨o, ho⟩ : ∃ o, name f n st (a + 1 + 2) = o := ⟨_, rfl⟩
  rw [ho]
  have KO : Hid (name f n st (a + 1 + 2) = o) := ho
  clear ho
  have hne : ¬ tb = rb := h.ne
  have hne' : ¬ rb = tb := fun e => h.ne e.symm
  have hn := h.rs.nn
  have ha := h.rs.aa
  have hcc := h.rs.cc
  have hcm := h.rs.cm
  have S0 := h
  have U0 : T2 rb tb w w := lin.Turns.refl _ w
  have hrl := h.rs.lt
  have htl : tb < w.heap.size := (Array.getElem?_eq_some_iff.1 h.tk).1
  clear h
  obtain ⟨⟨c0, c1, c2, z1, z2⟩, ⟨k0, k1, k2, k3, k4, k5, k6, k7⟩, ⟨f0, f1, f2, f3, f4, f5, f6, f7⟩⟩ := S0.cells
  go_enter Tryz.func45, Tryz.ntmps45
  have S1 := S0.t0 3
  have U1 := T2.put U0 0 (.int .i64 3)
  clear S0 U0
  have S2 := S1.put1 (x := ((a : Nat) : Int) + 1) (a' := a + 1) (by omega) (by omega)
  have U2 := T2.at U1 1 (.int .i64 (((a : Nat) : Int) + 1))
  clear S1 U1
  have C := has_t S2 U2 [63] (by decide) (by decide)
  rw [P0.out] at C
  go_wp2_with fail
  refine C.mono ?_
  rintro e w3 ⟨rfl, S3, U3⟩
  clear C S2 U2
  clear c0 c1 c2 z1 z2 k0 k1 k2 k3 k4 k5 k6 k7 f0 f1 f2 f3 f4 f5 f6 f7
  obtain ⟨⟨c0, c1, c2, z1, z2⟩, ⟨k0, k1, k2, k3, k4, k5, k6, k7⟩, ⟨f0, f1, f2, f3, f4, f5, f6, f7⟩⟩ := S3.cells
  have hsz : w.heap.size ≤ w3.heap.size := U3.size
  obtain ⟨W, hW⟩ : ∃ W, w3.alloc (.cells #[.string ⟨#[63, 58]⟩, .string ⟨#[63, 61]⟩, .string ⟨#[63, 33]⟩, .string ⟨#[63, 60, 61]⟩, .string ⟨#[63, 60, 33]⟩, .string ⟨#[63, 62]⟩] 9) = W := ⟨_, rfl⟩
  have BW : Below w3.heap.size w3 W := by rw [← hW]; exact (Below.refl _ _).alloc (Nat.le_refl _) _
  have HAW : Hid (T2 rb tb w W) := lin.Turns.trans U3 (lin.Turns.of_below BW)
  have S4 := S3.below BW
  have U4 : T2 rb tb W W := lin.Turns.refl _ W
  have GB0 : W.heap[w3.heap.size]? = some (.cells #[.string ⟨#[63, 58]⟩, .string ⟨#[63, 61]⟩, .string ⟨#[63, 33]⟩, .string ⟨#[63, 60, 61]⟩, .string ⟨#[63, 60, 33]⟩, .string ⟨#[63, 62]⟩] 9 (0, 0)) := by rw [← hW]; exact World.alloc_heap_new _ _
  have hgl : w3.heap.size < W.heap.size := by rw [← hW]; simp
  have HGN : Hid (¬ (w3.heap.size = rb ∨ w3.heap.size = tb)) := by unfold Hid; omega
  have HGL : Hid (w3.heap.size < W.heap.size) := hgl
  clear BW hgl hsz hrl htl
  clear S3 U3
  clear c0 c1 c2 z1 z2 k0 k1 k2 k3 k4 k5 k6 k7 f0 f1 f2 f3 f4 f5 f6 f7
  obtain ⟨⟨c0, c1, c2, z1, z2⟩, ⟨k0, k1, k2, k3, k4, k5, k6, k7⟩, ⟨f0, f1, f2, f3, f4, f5, f6, f7⟩⟩ := S4.cells
  have gb0 := cell_of_block GB0 0
  have gb1 := cell_of_block GB0 1
  have gb2 := cell_of_block GB0 2
  have gb3 := cell_of_block GB0 3
  have gb4 := cell_of_block GB0 4
  have gb5 := cell_of_block GB0 5
  simp only [List.getElem?_toArray, List.getElem?_cons_zero, List.getElem?_cons_succ] at gb0 gb1 gb2 gb3 gb4 gb5
  go_wp2
  refine wp_loop_rounds 7 ?_
  rw [rounds_succ]
  have C := has_t S4 U4 [63, 58] (by decide) (by decide)
  rw [Q0.out] at C
  go_wp2_with fail
  refine C.mono ?_
  rintro e w5 ⟨rfl, S5, U5⟩
  clear C S4 U4
  clear c0 c1 c2 z1 z2 k0 k1 k2 k3 k4 k5 k6 k7 f0 f1 f2 f3 f4 f5 f6 f7
  clear gb0 gb1 gb2 gb3 gb4 gb5
  have GB5 := (U5.block _ HGL.out HGN.out).trans GB0
  obtain ⟨⟨c0, c1, c2, z1, z2⟩, ⟨k0, k1, k2, k3, k4, k5, k6, k7⟩, ⟨f0, f1, f2, f3, f4, f5, f6, f7⟩⟩ := S5.cells
  have gb0 := cell_of_block GB5 0
  have gb1 := cell_of_block GB5 1
  have gb2 := cell_of_block GB5 2
  have gb3 := cell_of_block GB5 3
  have gb4 := cell_of_block GB5 4
  have gb5 := cell_of_block GB5 5
  simp only [List.getElem?_toArray, List.getElem?_cons_zero, List.getElem?_cons_succ] at gb0 gb1 gb2 gb3 gb4 gb5
  go_wp2
  rw [rounds_succ]
  have C := has_t S5 U5 [63, 61] (by decide) (by decide)
  rw [Q1.out] at C
  go_wp2_with fail
  refine C.mono ?_
  rintro e w6 ⟨rfl, S6, U6⟩
  clear C S5 U5
  clear c0 c1 c2 z1 z2 k0 k1 k2 k3 k4 k5 k6 k7 f0 f1 f2 f3 f4 f5 f6 f7
  clear gb0 gb1 gb2 gb3 gb4 gb5
  have GB6 := (U6.block _ HGL.out HGN.out).trans GB0
  obtain ⟨⟨c0, c1, c2, z1, z2⟩, ⟨k0, k1, k2, k3, k4, k5, k6, k7⟩, ⟨f0, f1, f2, f3, f4, f5, f6, f7⟩⟩ := S6.cells
  have gb0 := cell_of_block GB6 0
  have gb1 := cell_of_block GB6 1
  have gb2 := cell_of_block GB6 2
  have gb3 := cell_of_block GB6 3
  have gb4 := cell_of_block GB6 4
  have gb5 := cell_of_block GB6 5
  simp only [List.getElem?_toArray, List.getElem?_cons_zero, List.getElem?_cons_succ] at gb0 gb1 gb2 gb3 gb4 gb5
  go_wp2
  rw [rounds_succ]
  have C := has_t S6 U6 [63, 33] (by decide) (by decide)
  rw [Q2.out] at C
  go_wp2_with fail
  refine C.mono ?_
  rintro e w7 ⟨rfl, S7, U7⟩
  clear C S6 U6
  clear c0 c1 c2 z1 z2 k0 k1 k2 k3 k4 k5 k6 k7 f0 f1 f2 f3 f4 f5 f6 f7
  clear gb0 gb1 gb2 gb3 gb4 gb5
  have GB7 := (U7.block _ HGL.out HGN.out).trans GB0
  obtain ⟨⟨c0, c1, c2, z1, z2⟩, ⟨k0, k1, k2, k3, k4, k5, k6, k7⟩, ⟨f0, f1, f2, f3, f4, f5, f6, f7⟩⟩ := S7.cells
  have gb0 := cell_of_block GB7 0
  have gb1 := cell_of_block GB7 1
  have gb2 := cell_of_block GB7 2
  have gb3 := cell_of_block GB7 3
  have gb4 := cell_of_block GB7 4
  have gb5 := cell_of_block GB7 5
  simp only [List.getElem?_toArray, List.getElem?_cons_zero, List.getElem?_cons_succ] at gb0 gb1 gb2 gb3 gb4 gb5
  go_wp2
  rw [rounds_succ]
  have C := has_t S7 U7 [63, 60, 61] (by decide) (by decide)
  rw [Q3.out] at C
  go_wp2_with fail
  refine C.mono ?_
  rintro e w8 ⟨rfl, S8, U8⟩
  clear C S7 U7
  clear c0 c1 c2 z1 z2 k0 k1 k2 k3 k4 k5 k6 k7 f0 f1 f2 f3 f4 f5 f6 f7
  clear gb0 gb1 gb2 gb3 gb4 gb5
  have GB8 := (U8.block _ HGL.out HGN.out).trans GB0
  obtain ⟨⟨c0, c1, c2, z1, z2⟩, ⟨k0, k1, k2, k3, k4, k5, k6, k7⟩, ⟨f0, f1, f2, f3, f4, f5, f6, f7⟩⟩ := S8.cells
  have gb0 := cell_of_block GB8 0
  have gb1 := cell_of_block GB8 1
  have gb2 := cell_of_block GB8 2
  have gb3 := cell_of_block GB8 3
  have gb4 := cell_of_block GB8 4
  have gb5 := cell_of_block GB8 5
  simp only [List.getElem?_toArray, List.getElem?_cons_zero, List.getElem?_cons_succ] at gb0 gb1 gb2 gb3 gb4 gb5
  go_wp2
  rw [rounds_succ]
  have C := has_t S8 U8 [63, 60, 33] (by decide) (by decide)
  rw [Q4.out] at C
  go_wp2_with fail
  refine C.mono ?_
  rintro e w9 ⟨rfl, S9, U9⟩
  clear C S8 U8
  clear c0 c1 c2 z1 z2 k0 k1 k2 k3 k4 k5 k6 k7 f0 f1 f2 f3 f4 f5 f6 f7
  clear gb0 gb1 gb2 gb3 gb4 gb5
  have GB9 := (U9.block _ HGL.out HGN.out).trans GB0
  obtain ⟨⟨c0, c1, c2, z1, z2⟩, ⟨k0, k1, k2, k3, k4, k5, k6, k7⟩, ⟨f0, f1, f2, f3, f4, f5, f6, f7⟩⟩ := S9.cells
  have gb0 := cell_of_block GB9 0
  have gb1 := cell_of_block GB9 1
  have gb2 := cell_of_block GB9 2
  have gb3 := cell_of_block GB9 3
  have gb4 := cell_of_block GB9 4
  have gb5 := cell_of_block GB9 5
  simp only [List.getElem?_toArray, List.getElem?_cons_zero, List.getElem?_cons_succ] at gb0 gb1 gb2 gb3 gb4 gb5
  go_wp2
  rw [rounds_succ]
  have C := has_t S9 U9 [63, 62] (by decide) (by decide)
  rw [Q5.out] at C
  go_wp2_with fail
  refine C.mono ?_
  rintro e w10 ⟨rfl, S10, U10⟩
  clear C S9 U9
  clear c0 c1 c2 z1 z2 k0 k1 k2 k3 k4 k5 k6 k7 f0 f1 f2 f3 f4 f5 f6 f7
  clear gb0 gb1 gb2 gb3 gb4 gb5
  have GB10 := (U10.block _ HGL.out HGN.out).trans GB0
  obtain ⟨⟨c0, c1, c2, z1, z2⟩, ⟨k0, k1, k2, k3, k4, k5, k6, k7⟩, ⟨f0, f1, f2, f3, f4, f5, f6, f7⟩⟩ := S10.cells
  have gb0 := cell_of_block GB10 0
  have gb1 := cell_of_block GB10 1
  have gb2 := cell_of_block GB10 2
  have gb3 := cell_of_block GB10 3
  have gb4 := cell_of_block GB10 4
  have gb5 := cell_of_block GB10 5
  simp only [List.getElem?_toArray, List.getElem?_cons_zero, List.getElem?_cons_succ] at gb0 gb1 gb2 gb3 gb4 gb5
  go_wp2
  rw [rounds_succ]
  have C := ends_t S10 U10 [63, 58] (by decide)
  rw [E1.out] at C
  go_wp2_with fail
  refine C.mono ?_
  rintro e w11 ⟨rfl, S11, U11⟩
  clear C S10 U10
  clear c0 c1 c2 z1 z2 k0 k1 k2 k3 k4 k5 k6 k7 f0 f1 f2 f3 f4 f5 f6 f7
  clear gb0 gb1 gb2 gb3 gb4 gb5
  have GB11 := (U11.block _ HGL.out HGN.out).trans GB0
  obtain ⟨⟨c0, c1, c2, z1, z2⟩, ⟨k0, k1, k2, k3, k4, k5, k6, k7⟩, ⟨f0, f1, f2, f3, f4, f5, f6, f7⟩⟩ := S11.cells
  have gb0 := cell_of_block GB11 0
  have gb1 := cell_of_block GB11 1
  have gb2 := cell_of_block GB11 2
  have gb3 := cell_of_block GB11 3
  have gb4 := cell_of_block GB11 4
  have gb5 := cell_of_block GB11 5
  simp only [List.getElem?_toArray, List.getElem?_cons_zero, List.getElem?_cons_succ] at gb0 gb1 gb2 gb3 gb4 gb5
  have C := ends_t S11 U11 [63, 60, 61] (by decide)
  rw [E2.out] at C
  go_wp2_with fail
  refine C.mono ?_
  rintro e w12 ⟨rfl, S12, U12⟩
  clear C S11 U11
  clear c0 c1 c2 z1 z2 k0 k1 k2 k3 k4 k5 k6 k7 f0 f1 f2 f3 f4 f5 f6 f7
  clear gb0 gb1 gb2 gb3 gb4 gb5
  have GB12 := (U12.block _ HGL.out HGN.out).trans GB0
  obtain ⟨⟨c0, c1, c2, z1, z2⟩, ⟨k0, k1, k2, k3, k4, k5, k6, k7⟩, ⟨f0, f1, f2, f3, f4, f5, f6, f7⟩⟩ := S12.cells
  have gb0 := cell_of_block GB12 0
  have gb1 := cell_of_block GB12 1
  have gb2 := cell_of_block GB12 2
  have gb3 := cell_of_block GB12 3
  have gb4 := cell_of_block GB12 4
  have gb5 := cell_of_block GB12 5
  simp only [List.getElem?_toArray, List.getElem?_cons_zero, List.getElem?_cons_succ] at gb0 gb1 gb2 gb3 gb4 gb5
  have C := has_t S12 U12 [63, 60] (by decide) (by decide)
  rw [L1.out] at C
  go_wp2_with fail
  refine C.mono ?_
  rintro e w13 ⟨rfl, S13, U13⟩
  clear C S12 U12
  clear c0 c1 c2 z1 z2 k0 k1 k2 k3 k4 k5 k6 k7 f0 f1 f2 f3 f4 f5 f6 f7
  clear gb0 gb1 gb2 gb3 gb4 gb5
  have GB13 := (U13.block _ HGL.out HGN.out).trans GB0
  obtain ⟨⟨c0, c1, c2, z1, z2⟩, ⟨k0, k1, k2, k3, k4, k5, k6, k7⟩, ⟨f0, f1, f2, f3, f4, f5, f6, f7⟩⟩ := S13.cells
  have gb0 := cell_of_block GB13 0
  have gb1 := cell_of_block GB13 1
  have gb2 := cell_of_block GB13 2
  have gb3 := cell_of_block GB13 3
  have gb4 := cell_of_block GB13 4
  have gb5 := cell_of_block GB13 5
  simp only [List.getElem?_toArray, List.getElem?_cons_zero, List.getElem?_cons_succ] at gb0 gb1 gb2 gb3 gb4 gb5
  have S14 := S13.put1 (x := ((a + 1 : Nat) : Int) + 2) (a' := a + 1 + 2) (by omega) (by omega)
  have U14 := T2.at U13 1 (.int .i64 (((a + 1 : Nat) : Int) + 2))
  clear S13 U13
  have S15 := S14.t1 2
  have U15 := T2.put U14 1 (.int .i64 2)
  clear S14 U14
  have C := name_t S15 U15 st 133 hst
  rw [KO.out] at C
  clear KO
  go_wp2_with fail
  refine C.mono ?_
  clear C
  cases o with
  | ok s a1 =>
    rintro e w16 ⟨rfl, S16, U16⟩
    clear S15 U15
    clear c0 c1 c2 z1 z2 k0 k1 k2 k3 k4 k5 k6 k7 f0 f1 f2 f3 f4 f5 f6 f7
    obtain ⟨⟨c0, c1, c2, z1, z2⟩, ⟨k0, k1, k2, k3, k4, k5, k6, k7⟩, ⟨f0, f1, f2, f3, f4, f5, f6, f7⟩⟩ := S16.cells
    unfold nmV
    have S17 := S16.t4 s
    have U17 := T2.put U16 4 (.string (BA s))
    clear S16 U16
    go_wp2
    go_ret
    exact ⟨rfl, S17, lin.Turns.trans HAW.out U17⟩
  | no cc1 pp1 =>
    rintro e w16 ⟨rfl, ⟨a1, S16⟩, U16⟩
    clear S15 U15
    clear c0 c1 c2 z1 z2 k0 k1 k2 k3 k4 k5 k6 k7 f0 f1 f2 f3 f4 f5 f6 f7
    obtain ⟨⟨c0, c1, c2, z1, z2⟩, ⟨k0, k1, k2, k3, k4, k5, k6, k7⟩, ⟨f0, f1, f2, f3, f4, f5, f6, f7⟩⟩ := S16.cells
    unfold nmZ
    have S17 := S16.t4 []
    have U17 := T2.put U16 4 (.string (BA []))
    clear S16 U16
    go_wp2
    go_ret
    exact ⟨rfl, ⟨_, _, S17⟩, lin.Turns.trans HAW.out U17⟩
end Go.Proofs.YtlgkfnecahgedaaGreatDoor.tok
end
