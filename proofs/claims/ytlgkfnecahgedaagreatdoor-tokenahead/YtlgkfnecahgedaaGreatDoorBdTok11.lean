/- Texts that the proof leans on, one behind the other. -/
import Derived.Test.YtlgkfnecahgedaaGreatDoorBdTok10
import Derived.Test.YtlgkfnecahgedaaGreatDoorBdTok7
import Derived.Test.YtlgkfnecahgedaaGreatDoorBdUtf2
import Derived.Test.YtlgkfnecahgedaaGreatDoorBdTok9
import Derived.Test.YtlgkfnecahgedaaGreatDoorBdTok4

section
/- The document's tokens of classes (TokRef15c). -/
set_option linter.unusedVariables false
set_option linter.unusedSimpArgs false
namespace Go.Proofs.YtlgkfnecahgedaaGreatDoor.tok
open Go.RowKit
open lin (BA Turns)

set_option maxHeartbeats 4000000 in
set_option maxRecDepth 100000 in
theorem rcl_e (rb tb : Nat) (ao : Option Addr) (n cap : Nat) (f : Nat → Int) (a k : Nat) (c p : Int) (st : Nat) (w : World) (h : RT w rb tb ao n cap f a k c p ⟨0, 0, 0, 0, [], false, st, 0⟩) (hk : 0 < k) (hk2 : k < 1000000) (hl : a + 1 ≤ n) (q0 : hasB f n (a) [38, 38] = false) (q1 : hasB f n (a) [45, 45] = false) (q2 : hasB f n (a) [126, 126] = false) (p0 : hasB f n (a) [91] = false) (p1 : hasB f n (a) [93] = true) :
    Calls Tryz.prog 25 #[.pointer (some ⟨rb, 0, none⟩), .pointer (some ⟨tb, 0, none⟩)] w (RCl w rb tb ao n cap f a k c p st (some (bare 12, k - 1, a + 1))) := by
  have Q0 : Hid (hasB f n (a) [38, 38] = false) := q0
  clear q0
  have Q1 : Hid (hasB f n (a) [45, 45] = false) := q1
  clear q1
  have Q2 : Hid (hasB f n (a) [126, 126] = false) := q2
  clear q2
  have P0 : Hid (hasB f n (a) [91] = false) := p0
  clear p0
  have P1 : Hid (hasB f n (a) [93] = true) := p1
  clear p1
  have hk3 : (0 : Int) < (k : Int) := by omega
  have hne : ¬ tb = rb := h.ne
  have hne' : ¬ rb = tb := fun e => h.ne e.symm
  have hn := h.rs.nn
  have ha := h.rs.aa
  have hcc := h.rs.cc
  have hcm := h.rs.cm
  have hrl := h.rs.lt
  have htl : tb < w.heap.size := (Array.getElem?_eq_some_iff.1 h.tk).1
  obtain ⟨W, hW⟩ : ∃ W, w.alloc (.cells #[.string ⟨#[38, 38]⟩, .string ⟨#[45, 45]⟩, .string ⟨#[126, 126]⟩] 9) = W := ⟨_, rfl⟩
  have BW : Below w.heap.size w W := by rw [← hW]; exact (Below.refl _ _).alloc (Nat.le_refl _) _
  have HAW : Hid (T2 rb tb w W) := lin.Turns.of_below BW
  have S0 : RT W rb tb ao n cap f a k c p _ := h.below BW
  have U0 : T2 rb tb W W := lin.Turns.refl _ W
  have GB : W.heap[w.heap.size]? = some (.cells #[.string ⟨#[38, 38]⟩, .string ⟨#[45, 45]⟩, .string ⟨#[126, 126]⟩] 9 (0, 0)) := by rw [← hW]; exact World.alloc_heap_new _ _
  have hgl : w.heap.size < W.heap.size := by rw [← hW]; simp
  have HGN : Hid (¬ (w.heap.size = rb ∨ w.heap.size = tb)) := by unfold Hid; omega
  have HGL : Hid (w.heap.size < W.heap.size) := hgl
  clear BW hgl hrl htl
  clear h
  obtain ⟨⟨c0, c1, c2, z1, z2⟩, ⟨k0, k1, k2, k3, k4, k5, k6, k7⟩, ⟨f0, f1, f2, f3, f4, f5, f6, f7⟩⟩ := S0.cells
  have gb0 := cell_of_block GB 0
  have gb1 := cell_of_block GB 1
  have gb2 := cell_of_block GB 2
  simp only [List.getElem?_toArray, List.getElem?_cons_zero, List.getElem?_cons_succ] at gb0 gb1 gb2
  go_enter Tryz.func25, Tryz.ntmps25
  have GB0 := GB
  go_wp2
  refine wp_loop_rounds 4 ?_
  rw [rounds_succ]
  have C := has_t S0 U0 [38, 38] (by decide) (by decide)
  rw [Q0.out] at C
  go_wp2_with fail
  refine C.mono ?_
  rintro e w1 ⟨rfl, S1, U1⟩
  clear C S0 U0
  clear c0 c1 c2 z1 z2 k0 k1 k2 k3 k4 k5 k6 k7 f0 f1 f2 f3 f4 f5 f6 f7
  clear gb0 gb1 gb2
  have GB1 := (U1.block _ HGL.out HGN.out).trans GB0
  obtain ⟨⟨c0, c1, c2, z1, z2⟩, ⟨k0, k1, k2, k3, k4, k5, k6, k7⟩, ⟨f0, f1, f2, f3, f4, f5, f6, f7⟩⟩ := S1.cells
  have gb0 := cell_of_block GB1 0
  have gb1 := cell_of_block GB1 1
  have gb2 := cell_of_block GB1 2
  simp only [List.getElem?_toArray, List.getElem?_cons_zero, List.getElem?_cons_succ] at gb0 gb1 gb2
  go_wp2
  rw [rounds_succ]
  have C := has_t S1 U1 [45, 45] (by decide) (by decide)
  rw [Q1.out] at C
  go_wp2_with fail
  refine C.mono ?_
  rintro e w2 ⟨rfl, S2, U2⟩
  clear C S1 U1
  clear c0 c1 c2 z1 z2 k0 k1 k2 k3 k4 k5 k6 k7 f0 f1 f2 f3 f4 f5 f6 f7
  clear gb0 gb1 gb2
  have GB2 := (U2.block _ HGL.out HGN.out).trans GB0
  obtain ⟨⟨c0, c1, c2, z1, z2⟩, ⟨k0, k1, k2, k3, k4, k5, k6, k7⟩, ⟨f0, f1, f2, f3, f4, f5, f6, f7⟩⟩ := S2.cells
  have gb0 := cell_of_block GB2 0
  have gb1 := cell_of_block GB2 1
  have gb2 := cell_of_block GB2 2
  simp only [List.getElem?_toArray, List.getElem?_cons_zero, List.getElem?_cons_succ] at gb0 gb1 gb2
  go_wp2
  rw [rounds_succ]
  have C := has_t S2 U2 [126, 126] (by decide) (by decide)
  rw [Q2.out] at C
  go_wp2_with fail
  refine C.mono ?_
  rintro e w3 ⟨rfl, S3, U3⟩
  clear C S2 U2
  clear c0 c1 c2 z1 z2 k0 k1 k2 k3 k4 k5 k6 k7 f0 f1 f2 f3 f4 f5 f6 f7
  clear gb0 gb1 gb2
  have GB3 := (U3.block _ HGL.out HGN.out).trans GB0
  obtain ⟨⟨c0, c1, c2, z1, z2⟩, ⟨k0, k1, k2, k3, k4, k5, k6, k7⟩, ⟨f0, f1, f2, f3, f4, f5, f6, f7⟩⟩ := S3.cells
  have gb0 := cell_of_block GB3 0
  have gb1 := cell_of_block GB3 1
  have gb2 := cell_of_block GB3 2
  simp only [List.getElem?_toArray, List.getElem?_cons_zero, List.getElem?_cons_succ] at gb0 gb1 gb2
  go_wp2
  rw [rounds_succ]
  have C := has_t S3 U3 [91] (by decide) (by decide)
  rw [P0.out] at C
  go_wp2_with fail
  refine C.mono ?_
  rintro e w4 ⟨rfl, S4, U4⟩
  clear C S3 U3
  clear c0 c1 c2 z1 z2 k0 k1 k2 k3 k4 k5 k6 k7 f0 f1 f2 f3 f4 f5 f6 f7
  clear gb0 gb1 gb2
  have GB4 := (U4.block _ HGL.out HGN.out).trans GB0
  obtain ⟨⟨c0, c1, c2, z1, z2⟩, ⟨k0, k1, k2, k3, k4, k5, k6, k7⟩, ⟨f0, f1, f2, f3, f4, f5, f6, f7⟩⟩ := S4.cells
  have gb0 := cell_of_block GB4 0
  have gb1 := cell_of_block GB4 1
  have gb2 := cell_of_block GB4 2
  simp only [List.getElem?_toArray, List.getElem?_cons_zero, List.getElem?_cons_succ] at gb0 gb1 gb2
  have C := has_t S4 U4 [93] (by decide) (by decide)
  rw [P1.out] at C
  go_wp2_with fail
  refine C.mono ?_
  rintro e w5 ⟨rfl, S5, U5⟩
  clear C S4 U4
  clear c0 c1 c2 z1 z2 k0 k1 k2 k3 k4 k5 k6 k7 f0 f1 f2 f3 f4 f5 f6 f7
  clear gb0 gb1 gb2
  have GB5 := (U5.block _ HGL.out HGN.out).trans GB0
  obtain ⟨⟨c0, c1, c2, z1, z2⟩, ⟨k0, k1, k2, k3, k4, k5, k6, k7⟩, ⟨f0, f1, f2, f3, f4, f5, f6, f7⟩⟩ := S5.cells
  have gb0 := cell_of_block GB5 0
  have gb1 := cell_of_block GB5 1
  have gb2 := cell_of_block GB5 2
  simp only [List.getElem?_toArray, List.getElem?_cons_zero, List.getElem?_cons_succ] at gb0 gb1 gb2
  have S6 := S5.t0 12
  have U6 := T2.put U5 0 (.int .i64 12)
  clear S5 U5
  have S7 := S6.put1 (x := ((a : Nat) : Int) + 1) (a' := a + 1) (by omega) (by omega)
  have U7 := T2.at U6 1 (.int .i64 (((a : Nat) : Int) + 1))
  clear S6 U6
  have S8 := S7.put2 (x := ((k : Nat) : Int) - 1) (k' := k - 1) (by omega) (by omega)
  have U8 := T2.at U7 2 (.int .i64 (((k : Nat) : Int) - 1))
  clear S7 U7
  go_wp2
  go_ret
  exact ⟨rfl, S8, (lin.Turns.trans HAW.out U8)⟩
set_option maxHeartbeats 4000000 in
set_option maxRecDepth 100000 in
theorem rcl_d (rb tb : Nat) (ao : Option Addr) (n cap : Nat) (f : Nat → Int) (a k : Nat) (c p : Int) (st : Nat) (w : World) (h : RT w rb tb ao n cap f a k c p ⟨0, 0, 0, 0, [], false, st, 0⟩) (hk : 0 < k) (hk2 : k < 1000000) (hl : a + 1 ≤ n) (q0 : hasB f n (a) [38, 38] = false) (q1 : hasB f n (a) [45, 45] = false) (q2 : hasB f n (a) [126, 126] = false) (p0 : hasB f n (a) [91] = false) (p1 : hasB f n (a) [93] = false) (p2 : hasB f n (a) [45] = true) :
    Calls Tryz.prog 25 #[.pointer (some ⟨rb, 0, none⟩), .pointer (some ⟨tb, 0, none⟩)] w (RCl w rb tb ao n cap f a k c p st (some (bare 13, k, a + 1))) := by
  have Q0 : Hid (hasB f n (a) [38, 38] = false) := q0
  clear q0
  have Q1 : Hid (hasB f n (a) [45, 45] = false) := q1
  clear q1
  have Q2 : Hid (hasB f n (a) [126, 126] = false) := q2
  clear q2
  have P0 : Hid (hasB f n (a) [91] = false) := p0
  clear p0
  have P1 : Hid (hasB f n (a) [93] = false) := p1
  clear p1
  have P2 : Hid (hasB f n (a) [45] = true) := p2
  clear p2
  have hk3 : (0 : Int) < (k : Int) := by omega
  have hne : ¬ tb = rb := h.ne
  have hne' : ¬ rb = tb := fun e => h.ne e.symm
  have hn := h.rs.nn
  have ha := h.rs.aa
  have hcc := h.rs.cc
  have hcm := h.rs.cm
  have hrl := h.rs.lt
  have htl : tb < w.heap.size := (Array.getElem?_eq_some_iff.1 h.tk).1
  obtain ⟨W, hW⟩ : ∃ W, w.alloc (.cells #[.string ⟨#[38, 38]⟩, .string ⟨#[45, 45]⟩, .string ⟨#[126, 126]⟩] 9) = W := ⟨_, rfl⟩
  have BW : Below w.heap.size w W := by rw [← hW]; exact (Below.refl _ _).alloc (Nat.le_refl _) _
  have HAW : Hid (T2 rb tb w W) := lin.Turns.of_below BW
  have S0 : RT W rb tb ao n cap f a k c p _ := h.below BW
  have U0 : T2 rb tb W W := lin.Turns.refl _ W
  have GB : W.heap[w.heap.size]? = some (.cells #[.string ⟨#[38, 38]⟩, .string ⟨#[45, 45]⟩, .string ⟨#[126, 126]⟩] 9 (0, 0)) := by rw [← hW]; exact World.alloc_heap_new _ _
  have hgl : w.heap.size < W.heap.size := by rw [← hW]; simp
  have HGN : Hid (¬ (w.heap.size = rb ∨ w.heap.size = tb)) := by unfold Hid; omega
  have HGL : Hid (w.heap.size < W.heap.size) := hgl
  clear BW hgl hrl htl
  clear h
  obtain ⟨⟨c0, c1, c2, z1, z2⟩, ⟨k0, k1, k2, k3, k4, k5, k6, k7⟩, ⟨f0, f1, f2, f3, f4, f5, f6, f7⟩⟩ := S0.cells
  have gb0 := cell_of_block GB 0
  have gb1 := cell_of_block GB 1
  have gb2 := cell_of_block GB 2
  simp only [List.getElem?_toArray, List.getElem?_cons_zero, List.getElem?_cons_succ] at gb0 gb1 gb2
  go_enter Tryz.func25, Tryz.ntmps25
  have GB0 := GB
  go_wp2
  refine wp_loop_rounds 4 ?_
  rw [rounds_succ]
  have C := has_t S0 U0 [38, 38] (by decide) (by decide)
  rw [Q0.out] at C
  go_wp2_with fail
  refine C.mono ?_
  rintro e w1 ⟨rfl, S1, U1⟩
  clear C S0 U0
  clear c0 c1 c2 z1 z2 k0 k1 k2 k3 k4 k5 k6 k7 f0 f1 f2 f3 f4 f5 f6 f7
  clear gb0 gb1 gb2
  have GB1 := (U1.block _ HGL.out HGN.out).trans GB0
  obtain ⟨⟨c0, c1, c2, z1, z2⟩, ⟨k0, k1, k2, k3, k4, k5, k6, k7⟩, ⟨f0, f1, f2, f3, f4, f5, f6, f7⟩⟩ := S1.cells
  have gb0 := cell_of_block GB1 0
  have gb1 := cell_of_block GB1 1
  have gb2 := cell_of_block GB1 2
  simp only [List.getElem?_toArray, List.getElem?_cons_zero, List.getElem?_cons_succ] at gb0 gb1 gb2
  go_wp2
  rw [rounds_succ]
  have C := has_t S1 U1 [45, 45] (by decide) (by decide)
  rw [Q1.out] at C
  go_wp2_with fail
  refine C.mono ?_
  rintro e w2 ⟨rfl, S2, U2⟩
  clear C S1 U1
  clear c0 c1 c2 z1 z2 k0 k1 k2 k3 k4 k5 k6 k7 f0 f1 f2 f3 f4 f5 f6 f7
  clear gb0 gb1 gb2
  have GB2 := (U2.block _ HGL.out HGN.out).trans GB0
  obtain ⟨⟨c0, c1, c2, z1, z2⟩, ⟨k0, k1, k2, k3, k4, k5, k6, k7⟩, ⟨f0, f1, f2, f3, f4, f5, f6, f7⟩⟩ := S2.cells
  have gb0 := cell_of_block GB2 0
  have gb1 := cell_of_block GB2 1
  have gb2 := cell_of_block GB2 2
  simp only [List.getElem?_toArray, List.getElem?_cons_zero, List.getElem?_cons_succ] at gb0 gb1 gb2
  go_wp2
  rw [rounds_succ]
  have C := has_t S2 U2 [126, 126] (by decide) (by decide)
  rw [Q2.out] at C
  go_wp2_with fail
  refine C.mono ?_
  rintro e w3 ⟨rfl, S3, U3⟩
  clear C S2 U2
  clear c0 c1 c2 z1 z2 k0 k1 k2 k3 k4 k5 k6 k7 f0 f1 f2 f3 f4 f5 f6 f7
  clear gb0 gb1 gb2
  have GB3 := (U3.block _ HGL.out HGN.out).trans GB0
  obtain ⟨⟨c0, c1, c2, z1, z2⟩, ⟨k0, k1, k2, k3, k4, k5, k6, k7⟩, ⟨f0, f1, f2, f3, f4, f5, f6, f7⟩⟩ := S3.cells
  have gb0 := cell_of_block GB3 0
  have gb1 := cell_of_block GB3 1
  have gb2 := cell_of_block GB3 2
  simp only [List.getElem?_toArray, List.getElem?_cons_zero, List.getElem?_cons_succ] at gb0 gb1 gb2
  go_wp2
  rw [rounds_succ]
  have C := has_t S3 U3 [91] (by decide) (by decide)
  rw [P0.out] at C
  go_wp2_with fail
  refine C.mono ?_
  rintro e w4 ⟨rfl, S4, U4⟩
  clear C S3 U3
  clear c0 c1 c2 z1 z2 k0 k1 k2 k3 k4 k5 k6 k7 f0 f1 f2 f3 f4 f5 f6 f7
  clear gb0 gb1 gb2
  have GB4 := (U4.block _ HGL.out HGN.out).trans GB0
  obtain ⟨⟨c0, c1, c2, z1, z2⟩, ⟨k0, k1, k2, k3, k4, k5, k6, k7⟩, ⟨f0, f1, f2, f3, f4, f5, f6, f7⟩⟩ := S4.cells
  have gb0 := cell_of_block GB4 0
  have gb1 := cell_of_block GB4 1
  have gb2 := cell_of_block GB4 2
  simp only [List.getElem?_toArray, List.getElem?_cons_zero, List.getElem?_cons_succ] at gb0 gb1 gb2
  have C := has_t S4 U4 [93] (by decide) (by decide)
  rw [P1.out] at C
  go_wp2_with fail
  refine C.mono ?_
  rintro e w5 ⟨rfl, S5, U5⟩
  clear C S4 U4
  clear c0 c1 c2 z1 z2 k0 k1 k2 k3 k4 k5 k6 k7 f0 f1 f2 f3 f4 f5 f6 f7
  clear gb0 gb1 gb2
  have GB5 := (U5.block _ HGL.out HGN.out).trans GB0
  obtain ⟨⟨c0, c1, c2, z1, z2⟩, ⟨k0, k1, k2, k3, k4, k5, k6, k7⟩, ⟨f0, f1, f2, f3, f4, f5, f6, f7⟩⟩ := S5.cells
  have gb0 := cell_of_block GB5 0
  have gb1 := cell_of_block GB5 1
  have gb2 := cell_of_block GB5 2
  simp only [List.getElem?_toArray, List.getElem?_cons_zero, List.getElem?_cons_succ] at gb0 gb1 gb2
  have C := has_t S5 U5 [45] (by decide) (by decide)
  rw [P2.out] at C
  go_wp2_with fail
  refine C.mono ?_
  rintro e w6 ⟨rfl, S6, U6⟩
  clear C S5 U5
  clear c0 c1 c2 z1 z2 k0 k1 k2 k3 k4 k5 k6 k7 f0 f1 f2 f3 f4 f5 f6 f7
  clear gb0 gb1 gb2
  have GB6 := (U6.block _ HGL.out HGN.out).trans GB0
  obtain ⟨⟨c0, c1, c2, z1, z2⟩, ⟨k0, k1, k2, k3, k4, k5, k6, k7⟩, ⟨f0, f1, f2, f3, f4, f5, f6, f7⟩⟩ := S6.cells
  have gb0 := cell_of_block GB6 0
  have gb1 := cell_of_block GB6 1
  have gb2 := cell_of_block GB6 2
  simp only [List.getElem?_toArray, List.getElem?_cons_zero, List.getElem?_cons_succ] at gb0 gb1 gb2
  have S7 := S6.t0 13
  have U7 := T2.put U6 0 (.int .i64 13)
  clear S6 U6
  have S8 := S7.put1 (x := ((a : Nat) : Int) + 1) (a' := a + 1) (by omega) (by omega)
  have U8 := T2.at U7 1 (.int .i64 (((a : Nat) : Int) + 1))
  clear S7 U7
  go_wp2
  go_ret
  exact ⟨rfl, S8, (lin.Turns.trans HAW.out U8)⟩
end Go.Proofs.YtlgkfnecahgedaaGreatDoor.tok
end

section
/- The document's tokens of classes (TokRef15d). -/
set_option linter.unusedVariables false
set_option linter.unusedSimpArgs false
namespace Go.Proofs.YtlgkfnecahgedaaGreatDoor.tok
open Go.RowKit
open lin (BA Turns)

set_option maxHeartbeats 4000000 in
set_option maxRecDepth 100000 in
theorem rcl_x (rb tb : Nat) (ao : Option Addr) (n cap : Nat) (f : Nat → Int) (a k : Nat) (c p : Int) (st : Nat) (w : World) (h : RT w rb tb ao n cap f a k c p ⟨0, 0, 0, 0, [], false, st, 0⟩) (hk : 0 < k) (hk2 : k < 1000000) (q0 : hasB f n (a) [38, 38] = false) (q1 : hasB f n (a) [45, 45] = false) (q2 : hasB f n (a) [126, 126] = false) (p0 : hasB f n (a) [91] = false) (p1 : hasB f n (a) [93] = false) (p2 : hasB f n (a) [45] = false) :
    Calls Tryz.prog 25 #[.pointer (some ⟨rb, 0, none⟩), .pointer (some ⟨tb, 0, none⟩)] w (RCl w rb tb ao n cap f a k c p st none) := by
  have Q0 : Hid (hasB f n (a) [38, 38] = false) := q0
  clear q0
  have Q1 : Hid (hasB f n (a) [45, 45] = false) := q1
  clear q1
  have Q2 : Hid (hasB f n (a) [126, 126] = false) := q2
  clear q2
  have P0 : Hid (hasB f n (a) [91] = false) := p0
  clear p0
  have P1 : Hid (hasB f n (a) [93] = false) := p1
  clear p1
  have P2 : Hid (hasB f n (a) [45] = false) := p2
  clear p2
  have hk3 : (0 : Int) < (k : Int) := by omega
  have hne : ¬ tb = rb := h.ne
  have hne' : ¬ rb = tb := fun e => h.ne e.symm
  have hn := h.rs.nn
  have ha := h.rs.aa
  have hcc := h.rs.cc
  have hcm := h.rs.cm
  have hrl := h.rs.lt
  have htl : tb < w.heap.size := (Array.getElem?_eq_some_iff.1 h.tk).1
  obtain ⟨W, hW⟩ : ∃ W, w.alloc (.cells #[.string ⟨#[38, 38]⟩, .string ⟨#[45, 45]⟩, .string ⟨#[126, 126]⟩] 9) = W := ⟨_, rfl⟩
  have BW : Below w.heap.size w W := by rw [← hW]; exact (Below.refl _ _).alloc (Nat.le_refl _) _
  have HAW : Hid (T2 rb tb w W) := lin.Turns.of_below BW
  have S0 : RT W rb tb ao n cap f a k c p _ := h.below BW
  have U0 : T2 rb tb W W := lin.Turns.refl _ W
  have GB : W.heap[w.heap.size]? = some (.cells #[.string ⟨#[38, 38]⟩, .string ⟨#[45, 45]⟩, .string ⟨#[126, 126]⟩] 9 (0, 0)) := by rw [← hW]; exact World.alloc_heap_new _ _
  have hgl : w.heap.size < W.heap.size := by rw [← hW]; simp
  have HGN : Hid (¬ (w.heap.size = rb ∨ w.heap.size = tb)) := by unfold Hid; omega
  have HGL : Hid (w.heap.size < W.heap.size) := hgl
  clear BW hgl hrl htl
  clear h
  obtain ⟨⟨c0, c1, c2, z1, z2⟩, ⟨k0, k1, k2, k3, k4, k5, k6, k7⟩, ⟨f0, f1, f2, f3, f4, f5, f6, f7⟩⟩ := S0.cells
  have gb0 := cell_of_block GB 0
  have gb1 := cell_of_block GB 1
  have gb2 := cell_of_block GB 2
  simp only [List.getElem?_toArray, List.getElem?_cons_zero, List.getElem?_cons_succ] at gb0 gb1 gb2
  go_enter Tryz.func25, Tryz.ntmps25
  have GB0 := GB
  go_wp2
  refine wp_loop_rounds 4 ?_
  rw [rounds_succ]
  have C := has_t S0 U0 [38, 38] (by decide) (by decide)
  rw [Q0.out] at C
  go_wp2_with fail
  refine C.mono ?_
  rintro e w1 ⟨rfl, S1, U1⟩
  clear C S0 U0
  clear c0 c1 c2 z1 z2 k0 k1 k2 k3 k4 k5 k6 k7 f0 f1 f2 f3 f4 f5 f6 f7
  clear gb0 gb1 gb2
  have GB1 := (U1.block _ HGL.out HGN.out).trans GB0
  obtain ⟨⟨c0, c1, c2, z1, z2⟩, ⟨k0, k1, k2, k3, k4, k5, k6, k7⟩, ⟨f0, f1, f2, f3, f4, f5, f6, f7⟩⟩ := S1.cells
  have gb0 := cell_of_block GB1 0
  have gb1 := cell_of_block GB1 1
  have gb2 := cell_of_block GB1 2
  simp only [List.getElem?_toArray, List.getElem?_cons_zero, List.getElem?_cons_succ] at gb0 gb1 gb2
  go_wp2
  rw [rounds_succ]
  have C := has_t S1 U1 [45, 45] (by decide) (by decide)
  rw [Q1.out] at C
  go_wp2_with fail
  refine C.mono ?_
  rintro e w2 ⟨rfl, S2, U2⟩
  clear C S1 U1
  clear c0 c1 c2 z1 z2 k0 k1 k2 k3 k4 k5 k6 k7 f0 f1 f2 f3 f4 f5 f6 f7
  clear gb0 gb1 gb2
  have GB2 := (U2.block _ HGL.out HGN.out).trans GB0
  obtain ⟨⟨c0, c1, c2, z1, z2⟩, ⟨k0, k1, k2, k3, k4, k5, k6, k7⟩, ⟨f0, f1, f2, f3, f4, f5, f6, f7⟩⟩ := S2.cells
  have gb0 := cell_of_block GB2 0
  have gb1 := cell_of_block GB2 1
  have gb2 := cell_of_block GB2 2
  simp only [List.getElem?_toArray, List.getElem?_cons_zero, List.getElem?_cons_succ] at gb0 gb1 gb2
  go_wp2
  rw [rounds_succ]
  have C := has_t S2 U2 [126, 126] (by decide) (by decide)
  rw [Q2.out] at C
  go_wp2_with fail
  refine C.mono ?_
  rintro e w3 ⟨rfl, S3, U3⟩
  clear C S2 U2
  clear c0 c1 c2 z1 z2 k0 k1 k2 k3 k4 k5 k6 k7 f0 f1 f2 f3 f4 f5 f6 f7
  clear gb0 gb1 gb2
  have GB3 := (U3.block _ HGL.out HGN.out).trans GB0
  obtain ⟨⟨c0, c1, c2, z1, z2⟩, ⟨k0, k1, k2, k3, k4, k5, k6, k7⟩, ⟨f0, f1, f2, f3, f4, f5, f6, f7⟩⟩ := S3.cells
  have gb0 := cell_of_block GB3 0
  have gb1 := cell_of_block GB3 1
  have gb2 := cell_of_block GB3 2
  simp only [List.getElem?_toArray, List.getElem?_cons_zero, List.getElem?_cons_succ] at gb0 gb1 gb2
  go_wp2
  rw [rounds_succ]
  have C := has_t S3 U3 [91] (by decide) (by decide)
  rw [P0.out] at C
  go_wp2_with fail
  refine C.mono ?_
  rintro e w4 ⟨rfl, S4, U4⟩
  clear C S3 U3
  clear c0 c1 c2 z1 z2 k0 k1 k2 k3 k4 k5 k6 k7 f0 f1 f2 f3 f4 f5 f6 f7
  clear gb0 gb1 gb2
  have GB4 := (U4.block _ HGL.out HGN.out).trans GB0
  obtain ⟨⟨c0, c1, c2, z1, z2⟩, ⟨k0, k1, k2, k3, k4, k5, k6, k7⟩, ⟨f0, f1, f2, f3, f4, f5, f6, f7⟩⟩ := S4.cells
  have gb0 := cell_of_block GB4 0
  have gb1 := cell_of_block GB4 1
  have gb2 := cell_of_block GB4 2
  simp only [List.getElem?_toArray, List.getElem?_cons_zero, List.getElem?_cons_succ] at gb0 gb1 gb2
  have C := has_t S4 U4 [93] (by decide) (by decide)
  rw [P1.out] at C
  go_wp2_with fail
  refine C.mono ?_
  rintro e w5 ⟨rfl, S5, U5⟩
  clear C S4 U4
  clear c0 c1 c2 z1 z2 k0 k1 k2 k3 k4 k5 k6 k7 f0 f1 f2 f3 f4 f5 f6 f7
  clear gb0 gb1 gb2
  have GB5 := (U5.block _ HGL.out HGN.out).trans GB0
  obtain ⟨⟨c0, c1, c2, z1, z2⟩, ⟨k0, k1, k2, k3, k4, k5, k6, k7⟩, ⟨f0, f1, f2, f3, f4, f5, f6, f7⟩⟩ := S5.cells
  have gb0 := cell_of_block GB5 0
  have gb1 := cell_of_block GB5 1
  have gb2 := cell_of_block GB5 2
  simp only [List.getElem?_toArray, List.getElem?_cons_zero, List.getElem?_cons_succ] at gb0 gb1 gb2
  have C := has_t S5 U5 [45] (by decide) (by decide)
  rw [P2.out] at C
  go_wp2_with fail
  refine C.mono ?_
  rintro e w6 ⟨rfl, S6, U6⟩
  clear C S5 U5
  clear c0 c1 c2 z1 z2 k0 k1 k2 k3 k4 k5 k6 k7 f0 f1 f2 f3 f4 f5 f6 f7
  clear gb0 gb1 gb2
  have GB6 := (U6.block _ HGL.out HGN.out).trans GB0
  obtain ⟨⟨c0, c1, c2, z1, z2⟩, ⟨k0, k1, k2, k3, k4, k5, k6, k7⟩, ⟨f0, f1, f2, f3, f4, f5, f6, f7⟩⟩ := S6.cells
  have gb0 := cell_of_block GB6 0
  have gb1 := cell_of_block GB6 1
  have gb2 := cell_of_block GB6 2
  simp only [List.getElem?_toArray, List.getElem?_cons_zero, List.getElem?_cons_succ] at gb0 gb1 gb2
  go_wp2
  go_ret
  exact ⟨rfl, S6, (lin.Turns.trans HAW.out U6)⟩
set_option maxHeartbeats 4000000 in
set_option maxRecDepth 100000 in
theorem rcl_n0 (rb tb : Nat) (ao : Option Addr) (n cap : Nat) (f : Nat → Int) (a k : Nat) (c p : Int) (st : Nat) (w : World) (h : RT w rb tb ao n cap f a k c p ⟨0, 0, 0, 0, [], false, st, 0⟩) (hk : k = 0) (hk2 : k < 1000000) (hl : a + 2 ≤ n) (p0 : hasB f n (a) [91] = true) (p1 : hasB f n (a + 1) [94] = true) :
    Calls Tryz.prog 25 #[.pointer (some ⟨rb, 0, none⟩), .pointer (some ⟨tb, 0, none⟩)] w (RCl w rb tb ao n cap f a k c p st (some (classT true, k + 1, a + 2))) := by
  have P0 : Hid (hasB f n (a) [91] = true) := p0
  clear p0
  have P1 : Hid (hasB f n (a + 1) [94] = true) := p1
  clear p1
  have hk3 : ¬ (0 : Int) < (k : Int) := by omega
  clear hk
  have hne : ¬ tb = rb := h.ne
  have hne' : ¬ rb = tb := fun e => h.ne e.symm
  have hn := h.rs.nn
  have ha := h.rs.aa
  have hcc := h.rs.cc
  have hcm := h.rs.cm
  have hrl := h.rs.lt
  have htl : tb < w.heap.size := (Array.getElem?_eq_some_iff.1 h.tk).1
  obtain ⟨W, hW⟩ : ∃ W, w.alloc (.cells #[.string ⟨#[38, 38]⟩, .string ⟨#[45, 45]⟩, .string ⟨#[126, 126]⟩] 9) = W := ⟨_, rfl⟩
  have BW : Below w.heap.size w W := by rw [← hW]; exact (Below.refl _ _).alloc (Nat.le_refl _) _
  have HAW : Hid (T2 rb tb w W) := lin.Turns.of_below BW
  have S0 : RT W rb tb ao n cap f a k c p _ := h.below BW
  have U0 : T2 rb tb W W := lin.Turns.refl _ W
  have GB : W.heap[w.heap.size]? = some (.cells #[.string ⟨#[38, 38]⟩, .string ⟨#[45, 45]⟩, .string ⟨#[126, 126]⟩] 9 (0, 0)) := by rw [← hW]; exact World.alloc_heap_new _ _
  have hgl : w.heap.size < W.heap.size := by rw [← hW]; simp
  have HGN : Hid (¬ (w.heap.size = rb ∨ w.heap.size = tb)) := by unfold Hid; omega
  have HGL : Hid (w.heap.size < W.heap.size) := hgl
  clear BW hgl hrl htl
  clear h
  obtain ⟨⟨c0, c1, c2, z1, z2⟩, ⟨k0, k1, k2, k3, k4, k5, k6, k7⟩, ⟨f0, f1, f2, f3, f4, f5, f6, f7⟩⟩ := S0.cells
  have gb0 := cell_of_block GB 0
  have gb1 := cell_of_block GB 1
  have gb2 := cell_of_block GB 2
  simp only [List.getElem?_toArray, List.getElem?_cons_zero, List.getElem?_cons_succ] at gb0 gb1 gb2
  go_enter Tryz.func25, Tryz.ntmps25
  have GB0 := GB
  go_wp2
  refine wp_loop_rounds 4 ?_
  rw [rounds_succ]
  go_wp2
  rw [rounds_succ]
  go_wp2
  rw [rounds_succ]
  go_wp2
  rw [rounds_succ]
  have C := has_t S0 U0 [91] (by decide) (by decide)
  rw [P0.out] at C
  go_wp2_with fail
  refine C.mono ?_
  rintro e w1 ⟨rfl, S1, U1⟩
  clear C S0 U0
  clear c0 c1 c2 z1 z2 k0 k1 k2 k3 k4 k5 k6 k7 f0 f1 f2 f3 f4 f5 f6 f7
  clear gb0 gb1 gb2
  have GB1 := (U1.block _ HGL.out HGN.out).trans GB0
  obtain ⟨⟨c0, c1, c2, z1, z2⟩, ⟨k0, k1, k2, k3, k4, k5, k6, k7⟩, ⟨f0, f1, f2, f3, f4, f5, f6, f7⟩⟩ := S1.cells
  have gb0 := cell_of_block GB1 0
  have gb1 := cell_of_block GB1 1
  have gb2 := cell_of_block GB1 2
  simp only [List.getElem?_toArray, List.getElem?_cons_zero, List.getElem?_cons_succ] at gb0 gb1 gb2
  have S2 := S1.t0 11
  have U2 := T2.put U1 0 (.int .i64 11)
  clear S1 U1
  have S3 := S2.put1 (x := ((a : Nat) : Int) + 1) (a' := a + 1) (by omega) (by omega)
  have U3 := T2.at U2 1 (.int .i64 (((a : Nat) : Int) + 1))
  clear S2 U2
  have C := has_t S3 U3 [94] (by decide) (by decide)
  rw [P1.out] at C
  go_wp2_with fail
  refine C.mono ?_
  rintro e w4 ⟨rfl, S4, U4⟩
  clear C S3 U3
  clear c0 c1 c2 z1 z2 k0 k1 k2 k3 k4 k5 k6 k7 f0 f1 f2 f3 f4 f5 f6 f7
  clear gb0 gb1 gb2
  have GB4 := (U4.block _ HGL.out HGN.out).trans GB0
  obtain ⟨⟨c0, c1, c2, z1, z2⟩, ⟨k0, k1, k2, k3, k4, k5, k6, k7⟩, ⟨f0, f1, f2, f3, f4, f5, f6, f7⟩⟩ := S4.cells
  have gb0 := cell_of_block GB4 0
  have gb1 := cell_of_block GB4 1
  have gb2 := cell_of_block GB4 2
  simp only [List.getElem?_toArray, List.getElem?_cons_zero, List.getElem?_cons_succ] at gb0 gb1 gb2
  have S5 := S4.t5 true
  have U5 := T2.put U4 5 (.bool true)
  clear S4 U4
  have S6 := S5.put1 (x := ((a + 1 : Nat) : Int) + 1) (a' := a + 1 + 1) (by omega) (by omega)
  have U6 := T2.at U5 1 (.int .i64 (((a + 1 : Nat) : Int) + 1))
  clear S5 U5
  have S7 := S6.put2 (x := ((k : Nat) : Int) + 1) (k' := k + 1) (by omega) (by omega)
  have U7 := T2.at U6 2 (.int .i64 (((k : Nat) : Int) + 1))
  clear S6 U6
  go_wp2
  go_ret
  exact ⟨rfl, S7, (lin.Turns.trans HAW.out U7)⟩
set_option maxHeartbeats 4000000 in
set_option maxRecDepth 100000 in
theorem rcl_o0 (rb tb : Nat) (ao : Option Addr) (n cap : Nat) (f : Nat → Int) (a k : Nat) (c p : Int) (st : Nat) (w : World) (h : RT w rb tb ao n cap f a k c p ⟨0, 0, 0, 0, [], false, st, 0⟩) (hk : k = 0) (hk2 : k < 1000000) (hl : a + 1 ≤ n) (p0 : hasB f n (a) [91] = true) (p1 : hasB f n (a + 1) [94] = false) :
    Calls Tryz.prog 25 #[.pointer (some ⟨rb, 0, none⟩), .pointer (some ⟨tb, 0, none⟩)] w (RCl w rb tb ao n cap f a k c p st (some (classT false, k + 1, a + 1))) := by
  have P0 : Hid (hasB f n (a) [91] = true) := p0
  clear p0
  have P1 : Hid (hasB f n (a + 1) [94] = false) := p1
  clear p1
  have hk3 : ¬ (0 : Int) < (k : Int) := by omega
  clear hk
  have hne : ¬ tb = rb := h.ne
  have hne' : ¬ rb = tb := fun e => h.ne e.symm
  have hn := h.rs.nn
  have ha := h.rs.aa
  have hcc := h.rs.cc
  have hcm := h.rs.cm
  have hrl := h.rs.lt
  have htl : tb < w.heap.size := (Array.getElem?_eq_some_iff.1 h.tk).1
  obtain ⟨W, hW⟩ : ∃ W, w.alloc (.cells #[.string ⟨#[38, 38]⟩, .string ⟨#[45, 45]⟩, .string ⟨#[126, 126]⟩] 9) = W := ⟨_, rfl⟩
  have BW : Below w.heap.size w W := by rw [← hW]; exact (Below.refl _ _).alloc (Nat.le_refl _) _
  have HAW : Hid (T2 rb tb w W) := lin.Turns.of_below BW
  have S0 : RT W rb tb ao n cap f a k c p _ := h.below BW
  have U0 : T2 rb tb W W := lin.Turns.refl _ W
  have GB : W.heap[w.heap.size]? = some (.cells #[.string ⟨#[38, 38]⟩, .string ⟨#[45, 45]⟩, .string ⟨#[126, 126]⟩] 9 (0, 0)) := by rw [← hW]; exact World.alloc_heap_new _ _
  have hgl : w.heap.size < W.heap.size := by rw [← hW]; simp
  have HGN : Hid (¬ (w.heap.size = rb ∨ w.heap.size = tb)) := by unfold Hid; omega
  have HGL : Hid (w.heap.size < W.heap.size) := hgl
  clear BW hgl hrl htl
  clear h
  obtain ⟨⟨c0, c1, c2, z1, z2⟩, ⟨k0, k1, k2, k3, k4, k5, k6, k7⟩, ⟨f0, f1, f2, f3, f4, f5, f6, f7⟩⟩ := S0.cells
  have gb0 := cell_of_block GB 0
  have gb1 := cell_of_block GB 1
  have gb2 := cell_of_block GB 2
  simp only [List.getElem?_toArray, List.getElem?_cons_zero, List.getElem?_cons_succ] at gb0 gb1 gb2
  go_enter Tryz.func25, Tryz.ntmps25
  have GB0 := GB
  go_wp2
  refine wp_loop_rounds 4 ?_
  rw [rounds_succ]
  go_wp2
  rw [rounds_succ]
  go_wp2
  rw [rounds_succ]
  go_wp2
  rw [rounds_succ]
  have C := has_t S0 U0 [91] (by decide) (by decide)
  rw [P0.out] at C
  go_wp2_with fail
  refine C.mono ?_
  rintro e w1 ⟨rfl, S1, U1⟩
  clear C S0 U0
  clear c0 c1 c2 z1 z2 k0 k1 k2 k3 k4 k5 k6 k7 f0 f1 f2 f3 f4 f5 f6 f7
  clear gb0 gb1 gb2
  have GB1 := (U1.block _ HGL.out HGN.out).trans GB0
  obtain ⟨⟨c0, c1, c2, z1, z2⟩, ⟨k0, k1, k2, k3, k4, k5, k6, k7⟩, ⟨f0, f1, f2, f3, f4, f5, f6, f7⟩⟩ := S1.cells
  have gb0 := cell_of_block GB1 0
  have gb1 := cell_of_block GB1 1
  have gb2 := cell_of_block GB1 2
  simp only [List.getElem?_toArray, List.getElem?_cons_zero, List.getElem?_cons_succ] at gb0 gb1 gb2
  have S2 := S1.t0 11
  have U2 := T2.put U1 0 (.int .i64 11)
  clear S1 U1
  have S3 := S2.put1 (x := ((a : Nat) : Int) + 1) (a' := a + 1) (by omega) (by omega)
  have U3 := T2.at U2 1 (.int .i64 (((a : Nat) : Int) + 1))
  clear S2 U2
  have C := has_t S3 U3 [94] (by decide) (by decide)
  rw [P1.out] at C
  go_wp2_with fail
  refine C.mono ?_
  rintro e w4 ⟨rfl, S4, U4⟩
  clear C S3 U3
  clear c0 c1 c2 z1 z2 k0 k1 k2 k3 k4 k5 k6 k7 f0 f1 f2 f3 f4 f5 f6 f7
  clear gb0 gb1 gb2
  have GB4 := (U4.block _ HGL.out HGN.out).trans GB0
  obtain ⟨⟨c0, c1, c2, z1, z2⟩, ⟨k0, k1, k2, k3, k4, k5, k6, k7⟩, ⟨f0, f1, f2, f3, f4, f5, f6, f7⟩⟩ := S4.cells
  have gb0 := cell_of_block GB4 0
  have gb1 := cell_of_block GB4 1
  have gb2 := cell_of_block GB4 2
  simp only [List.getElem?_toArray, List.getElem?_cons_zero, List.getElem?_cons_succ] at gb0 gb1 gb2
  have S5 := S4.put2 (x := ((k : Nat) : Int) + 1) (k' := k + 1) (by omega) (by omega)
  have U5 := T2.at U4 2 (.int .i64 (((k : Nat) : Int) + 1))
  clear S4 U4
  go_wp2
  go_ret
  exact ⟨rfl, S5, (lin.Turns.trans HAW.out U5)⟩
set_option maxHeartbeats 4000000 in
set_option maxRecDepth 100000 in
theorem rcl_x0 (rb tb : Nat) (ao : Option Addr) (n cap : Nat) (f : Nat → Int) (a k : Nat) (c p : Int) (st : Nat) (w : World) (h : RT w rb tb ao n cap f a k c p ⟨0, 0, 0, 0, [], false, st, 0⟩) (hk : k = 0) (hk2 : k < 1000000) (p0 : hasB f n (a) [91] = false) :
    Calls Tryz.prog 25 #[.pointer (some ⟨rb, 0, none⟩), .pointer (some ⟨tb, 0, none⟩)] w (RCl w rb tb ao n cap f a k c p st none) := by
  have P0 : Hid (hasB f n (a) [91] = false) := p0
  clear p0
  have hk3 : ¬ (0 : Int) < (k : Int) := by omega
  clear hk
  have hne : ¬ tb = rb := h.ne
  have hne' : ¬ rb = tb := fun e => h.ne e.symm
  have hn := h.rs.nn
  have ha := h.rs.aa
  have hcc := h.rs.cc
  have hcm := h.rs.cm
  have hrl := h.rs.lt
  have htl : tb < w.heap.size := (Array.getElem?_eq_some_iff.1 h.tk).1
  obtain ⟨W, hW⟩ : ∃ W, w.alloc (.cells #[.string ⟨#[38, 38]⟩, .string ⟨#[45, 45]⟩, .string ⟨#[126, 126]⟩] 9) = W := ⟨_, rfl⟩
  have BW : Below w.heap.size w W := by rw [← hW]; exact (Below.refl _ _).alloc (Nat.le_refl _) _
  have HAW : Hid (T2 rb tb w W) := lin.Turns.of_below BW
  have S0 : RT W rb tb ao n cap f a k c p _ := h.below BW
  have U0 : T2 rb tb W W := lin.Turns.refl _ W
  have GB : W.heap[w.heap.size]? = some (.cells #[.string ⟨#[38, 38]⟩, .string ⟨#[45, 45]⟩, .string ⟨#[126, 126]⟩] 9 (0, 0)) := by rw [← hW]; exact World.alloc_heap_new _ _
  have hgl : w.heap.size < W.heap.size := by rw [← hW]; simp
  have HGN : Hid (¬ (w.heap.size = rb ∨ w.heap.size = tb)) := by unfold Hid; omega
  have HGL : Hid (w.heap.size < W.heap.size) := hgl
  clear BW hgl hrl htl
  clear h
  obtain ⟨⟨c0, c1, c2, z1, z2⟩, ⟨k0, k1, k2, k3, k4, k5, k6, k7⟩, ⟨f0, f1, f2, f3, f4, f5, f6, f7⟩⟩ := S0.cells
  have gb0 := cell_of_block GB 0
  have gb1 := cell_of_block GB 1
  have gb2 := cell_of_block GB 2
  simp only [List.getElem?_toArray, List.getElem?_cons_zero, List.getElem?_cons_succ] at gb0 gb1 gb2
  go_enter Tryz.func25, Tryz.ntmps25
  have GB0 := GB
  go_wp2
  refine wp_loop_rounds 4 ?_
  rw [rounds_succ]
  go_wp2
  rw [rounds_succ]
  go_wp2
  rw [rounds_succ]
  go_wp2
  rw [rounds_succ]
  have C := has_t S0 U0 [91] (by decide) (by decide)
  rw [P0.out] at C
  go_wp2_with fail
  refine C.mono ?_
  rintro e w1 ⟨rfl, S1, U1⟩
  clear C S0 U0
  clear c0 c1 c2 z1 z2 k0 k1 k2 k3 k4 k5 k6 k7 f0 f1 f2 f3 f4 f5 f6 f7
  clear gb0 gb1 gb2
  have GB1 := (U1.block _ HGL.out HGN.out).trans GB0
  obtain ⟨⟨c0, c1, c2, z1, z2⟩, ⟨k0, k1, k2, k3, k4, k5, k6, k7⟩, ⟨f0, f1, f2, f3, f4, f5, f6, f7⟩⟩ := S1.cells
  have gb0 := cell_of_block GB1 0
  have gb1 := cell_of_block GB1 1
  have gb2 := cell_of_block GB1 2
  simp only [List.getElem?_toArray, List.getElem?_cons_zero, List.getElem?_cons_succ] at gb0 gb1 gb2
  go_wp2
  go_ret
  exact ⟨rfl, S1, (lin.Turns.trans HAW.out U1)⟩
end Go.Proofs.YtlgkfnecahgedaaGreatDoor.tok
end

section
/- Tokens stand one behind the other; a fault stands behind them. Plain mathematics. -/
set_option linter.unusedVariables false
set_option linter.unusedSimpArgs false
namespace Go.Proofs.YtlgkfnecahgedaaGreatDoor.tok
open utf (it len it_end)

/-- Tokens that stand one behind the other, from a to b. -/
def Chain : Nat → List Tk → Nat → Prop
  | a, [], b => a = b
  | a, t :: l, b => t.s = a ∧ a < t.e ∧ 1 ≤ t.kind ∧ t.kind ≤ 14 ∧ Chain t.e l b
/-- Where tokens end. -/
def endT : Nat → List Tk → Nat
  | a, [] => a
  | _, t :: l => endT t.e l
section
variable (f : Nat → Int) (n : Nat)
theorem scanR_chain : ∀ m a k, n ≤ a + m → a ≤ n → ∃ b, Chain a (scanR f n m a k).1 b ∧ b ≤ n ∧ ((scanR f n m a k).2.1 = 0 → b = n) ∧ ((scanR f n m a k).2.1 ≠ 0 → b ≤ (scanR f n m a k).2.2 ∧ (scanR f n m a k).2.2 ≤ n) := by
  intro m
  induction m with
  | zero => intro a k h ha; exact ⟨a, rfl, ha, fun _ => by omega, fun h => absurd rfl h⟩
  | succ m ih =>
    intro a k h ha
    simp only [scanR]
    by_cases hl : a < n
    · rw [if_pos hl]
      cases ho : token f n a k with
      | no c p =>
        have h1 := token_in f n a k ha
        rw [ho] at h1
        exact ⟨a, rfl, ha, fun e => absurd e h1.1, fun _ => h1.2⟩
      | ok t a' =>
        have hv := token_val f n ho ha
        obtain ⟨b, h1, h2, h3, h4⟩ := ih a' t.2 (by omega) hv.2.1
        exact ⟨b, ⟨rfl, hv.1, hv.2.2.2.1, hv.2.2.2.2, h1⟩, h2, h3, h4⟩
    · rw [if_neg hl]
      exact ⟨a, rfl, ha, fun _ => by omega, fun h => absurd rfl h⟩
theorem scanL_chain : ∃ b, Chain 0 (scanL f n).1 b ∧ b ≤ n ∧ ((scanL f n).2.1 = 0 → b = n) ∧ ((scanL f n).2.1 ≠ 0 → b ≤ (scanL f n).2.2 ∧ (scanL f n).2.2 ≤ n) := by
  unfold scanL
  split
  · exact scanR_chain f n n 0 0 (by omega) (Nat.zero_le _)
  · exact ⟨0, rfl, Nat.zero_le _, fun h => by simp at h, fun _ => ⟨Nat.zero_le _, by show 2000 ≤ n; omega⟩⟩
theorem Chain.len : ∀ {a : Nat} {l : List Tk} {b : Nat}, Chain a l b → a + l.length ≤ b
  | a, [], b, h => Nat.le_of_eq h
  | a, t :: l, b, h => by have := Chain.len h.2.2.2.2; have := h.2.1; simp only [List.length_cons]; omega
end
end Go.Proofs.YtlgkfnecahgedaaGreatDoor.tok
end

section
/- What a pattern says for a code point is one token. Plain mathematics. -/
set_option linter.unusedVariables false
set_option linter.unusedSimpArgs false
namespace Go.Proofs.YtlgkfnecahgedaaGreatDoor.tok
open utf (it len it_end enc it_ext it_shift it_enc enc_pos enc_of_1 len_1)

/-- These bytes stand at a place. -/
def Here (f : Nat → Int) (n a : Nat) (L : List Int) : Prop := a + L.length ≤ n ∧ ∀ i, i < L.length → f (a + i) = L.getD i 0
theorem point_here {f : Nat → Int} {n a : Nat} {r : Int} (hr : len r ≠ 0) (h : Here f n a (enc r)) : point f n a = .ok r (a + (enc r).length) := by
  have hp := enc_pos r hr
  have h1 := h.1
  have e1 := it_ext (fun i => (enc r).getD i 0) (fun i => f (a + i)) (enc r).length (n - a) 0 (by omega) hp.1 (fun i hi => h.2 i hi) (by rw [it_enc r hr])
  rw [it_enc r hr, it_shift, show a + (n - a) = n by omega, show a + 0 = a by omega] at e1
  have he := it_end f n a (by omega)
  have e2 : (it f n a).1 = r := congrArg (·.1) e1
  have e3 : (it f n a).2.1 - a = (enc r).length := congrArg (·.2.1) e1
  have e4 : (it f n a).2.2 = true := congrArg (·.2.2) e1
  unfold point
  rw [if_pos (by omega), if_pos e4, e2, show (it f n a).2.1 = a + (enc r).length by omega]
theorem enc_low (r : Int) (h0 : 0 ≤ r) (h1 : r ≤ 127) : enc r = [r] := enc_of_1 r (len_1 r h0 h1)
theorem len_low (r : Int) (h0 : 0 ≤ r) (h1 : r ≤ 127) : len r ≠ 0 := by rw [len_1 r h0 h1]; decide
/-- A byte below 128 is a code point. -/
theorem point_low {f : Nat → Int} {n a : Nat} {r : Int} (h0 : 0 ≤ r) (h1 : r ≤ 127) (ha : a < n) (hf : f a = r) : point f n a = .ok r (a + 1) := by
  have := point_here (f := f) (n := n) (a := a) (len_low r h0 h1) (by rw [enc_low r h0 h1]; exact ⟨by simp; omega, fun i hi => by simp at hi; subst hi; simpa using hf⟩)
  rw [enc_low r h0 h1] at this
  exact this

def dU (d : Int) : Int := if d < 10 then 48 + d else 55 + d
def hexU (r : Int) : List Int := if r < 16 then [dU r] else [dU (r / 16), dU (r % 16)]
def marksO : List Int := [46, 91, 40, 41, 124, 42, 43, 63, 123, 94, 36, 92]
def marksC : List Int := [91, 93, 94, 45, 38, 126, 92]
/-- What a pattern says for a code point. -/
def printL (r : Int) (cls : Bool) : List Int :=
  if len r = 0 then [] else if r < 32 ∨ r = 127 then [92, 120, 123] ++ hexU r ++ [125]
  else if r ∈ (if cls = true then marksC else marksO) then 92 :: enc r else enc r
section
variable (f : Nat → Int) (n : Nat)
end
end Go.Proofs.YtlgkfnecahgedaaGreatDoor.tok
end

section
/- Code points and bytes at a place; the expression of a property, as the document reads it: plain mathematics. -/
set_option linter.unusedVariables false
set_option linter.unusedSimpArgs false
namespace Go.Proofs.YtlgkfnecahgedaaGreatDoor.tok
open lin (BA)
open utf (it len enc seg)

section
variable (f : Nat → Int) (n : Nat)
theorem point_inv (hf : ∀ i, 0 ≤ f i ∧ f i ≤ 255) {a a' : Nat} {r : Int} (h : point f n a = .ok r a') : a < n ∧ 0 ≤ r ∧ r ≤ 1114111 ∧ len r ≠ 0 ∧ (r ≤ 127 → f a = r ∧ a' = a + 1) ∧ (f a ≤ 127 → r = f a ∧ a' = a + 1) := by
  have hv := point_val h
  unfold point at h
  rw [if_pos hv.1] at h
  split at h
  · rename_i hg
    cases h
    have g := utf.it_good f n a hf hg
    have hc := utf.len_cases _ g.1
    refine ⟨hv.1, hc.1, hc.2.1, g.1, fun hr => ?_, fun hl => ?_⟩
    · have e := g.2
      rw [enc_low _ hc.1 hr] at e
      have hlen := congrArg List.length e
      simp [utf.seg] at hlen
      have hend : (it f n a).2.1 = a + 1 := by omega
      rw [hend, show a + 1 - a = 1 by omega, utf.seg_1] at e
      exact ⟨by simpa using e.symm, hend⟩
    · have hz := hf a
      have e := point_low (f := f) (n := n) (a := a) hz.1 hl hv.1 rfl
      unfold point at e
      rw [if_pos hv.1, if_pos hg] at e
      injection e with e1 e2
      exact ⟨e1, e2⟩
  · cases h
theorem exprR_go (hf : ∀ i, 0 ≤ f i ∧ f i ≤ 255) {a : Nat} (h : a < n) (hc : ¬ f a = 125) : exprR f n (n + 1 - a) a = (point f n a).bind fun r a' => exprR f n (n + 1 - a') a' := by
  rw [exprR_step]
  cases ho : point f n a with
  | no c p => rfl
  | ok r a' =>
    have hi := point_inv f n hf ho
    rw [bind_ok, bind_ok]
    by_cases hr : r = 125
    · exact absurd ((hi.2.2.2.2.1 (by omega)).1.trans hr) hc
    · rw [if_neg hr]
theorem exprR_end {a : Nat} (h : a < n) (hc : f a = 125) : exprR f n (n + 1 - a) a = .ok () (a + 1) := by
  rw [exprR_step, point_low (r := 125) (by decide) (by decide) h hc, bind_ok, if_pos rfl]
theorem exprR_out {a : Nat} (h : n ≤ a) : exprR f n (n + 1 - a) a = .no 130 n := by
  rw [exprR_step]
  unfold point
  rw [if_neg (by omega), bind_no]
end
end Go.Proofs.YtlgkfnecahgedaaGreatDoor.tok
end
