/- Texts that the proof leans on, one behind the other. -/
import Derived.Test.YtlgkfnecahgedaaGreatDoorBdTok10
import Derived.Test.YtlgkfnecahgedaaGreatDoorBdTok7
import Derived.Test.YtlgkfnecahgedaaGreatDoorBdUtf3
import Derived.Test.YtlgkfnecahgedaaGreatDoorBdUtf2

section
/- The document's tokens of classes (TokRef15c). -/
set_option linter.unusedVariables false
set_option linter.unusedSimpArgs false
namespace Go.Proofs.YtlgkfnecahgedaaGreatDoor.tok
open Go.RowKit
open lin (BA Turns)

set_option maxHeartbeats 4000000 in
set_option maxRecDepth 100000 in
theorem rcl_e (rb tb : Nat) (ao : Option Addr) (n cap : Nat) (f : Nat → Int) (a k : Nat) (c p : Int) (st : Nat) (w : World) (h : RT w rb tb ao n cap f a k c p ⟨0, 0, 0, 0, [], false, st, 0⟩) (hk : 0 < k) (hk2 : k < 1000000) (hl : a + 1 ≤ n) (q0 : hasB f n (a) [38, 38] = false) (q1 : hasB f n (a) [45, 45] = false) (q2 : hasB f n (a) [126, 126] = false) (p0 : hasB f n (a) [91] = false) (p1 : hasB f n (a) [93] = true) :
    Calls Tryz.prog 25 #[.pointer (some ⟨rb, 0, none⟩), .pointer (some ⟨tb, 0, none⟩)] w (RCl w rb tb ao n cap f a k c p st (some (bare 12, k - 1, a + 1))) := by
  have Q0 : Hid (hasB f n (a) [38, 38] = false) := q0
  clear q0
  have Q1 : Hid (hasB f n (a) [45, 45] = false) := q1
  clear q1
  have Q2 : Hid (hasB f n (a) [126, 126] = false) := q2
  clear q2
  have P0 : Hid (hasB f n (a) [91] = false) := p0
  clear p0
  have P1 : Hid (hasB f n (a) [93] = true) := p1
  clear p1
  have hk3 : (0 : Int) < (k : Int) := by omega
  have hne : ¬ tb = rb := h.ne
  have hne' : ¬ rb = tb := fun e => h.ne e.symm
  have hn := h.rs.nn
  have ha := h.rs.aa
  have hcc := h.rs.cc
  have hcm := h.rs.cm
  have hrl := h.rs.lt
  have htl : tb < w.heap.size := (Array.getElem?_eq_some_iff.1 h.tk).1
  obtain ⟨W, hW⟩ : ∃ W, w.alloc (.cells #[.string ⟨#[38, 38]⟩, .string ⟨#[45, 45]⟩, .string ⟨#[126, 126]⟩] 9) = W := ⟨_, rfl⟩
  have BW : Below w.heap.size w W := by rw [← hW]; exact (Below.refl _ _).alloc (Nat.le_refl _) _
  have HAW : Hid (T2 rb tb w W) := lin.Turns.of_below BW
  have S0 : RT W rb tb ao n cap f a k c p _ := h.below BW
  have U0 : T2 rb tb W W := lin.Turns.refl _ W
  have GB : W.heap[w.heap.size]? = some (.cells #[.string ⟨#[38, 38]⟩, .string ⟨#[45, 45]⟩, .string ⟨#[126, 126]⟩] 9 (0, 0)) := by rw [← hW]; exact World.alloc_heap_new _ _
  have hgl : w.heap.size < W.heap.size := by rw [← hW]; simp
  have HGN : Hid (¬ (w.heap.size = rb ∨ w.heap.size = tb)) := by unfold Hid; omega
  have HGL : Hid (w.heap.size < W.heap.size) := hgl
  clear BW hgl hrl htl
  clear h
  obtain ⟨⟨c0, c1, c2, z1, z2⟩, ⟨k0, k1, k2, k3, k4, k5, k6, k7⟩, ⟨f0, f1, f2, f3, f4, f5, f6, f7⟩⟩ := S0.cells
  have gb0 := cell_of_block GB 0
  have gb1 := cell_of_block GB 1
  have gb2 := cell_of_block GB 2
  simp only [List.getElem?_toArray, List.getElem?_cons_zero, List.getElem?_cons_succ] at gb0 gb1 gb2
  go_enter Tryz.func25, Tryz.ntmps25
  have GB0 := GB
  go_wp2
  refine wp_loop_rounds 4 ?_
  rw [rounds_succ]
  have C := has_t S0 U0 [38, 38] (by decide) (by decide)
  rw [Q0.out] at C
  go_wp2_with fail
  refine C.mono ?_
  rintro e w1 ⟨rfl, S1, U1⟩
  clear C S0 U0
  clear c0 c1 c2 z1 z2 k0 k1 k2 k3 k4 k5 k6 k7 f0 f1 f2 f3 f4 f5 f6 f7
  clear gb0 gb1 gb2
  have GB1 := (U1.block _ HGL.out HGN.out).trans GB0
  obtain ⟨⟨c0, c1, c2, z1, z2⟩, ⟨k0, k1, k2, k3, k4, k5, k6, k7⟩, ⟨f0, f1, f2, f3, f4, f5, f6, f7⟩⟩ := S1.cells
  have gb0 := cell_of_block GB1 0
  have gb1 := cell_of_block GB1 1
  have gb2 := cell_of_block GB1 2
  simp only [List.getElem?_toArray, List.getElem?_cons_zero, List.getElem?_cons_succ] at gb0 gb1 gb2
  go_wp2
  rw [rounds_succ]
  have C := has_t S1 U1 [45, 45] (by decide) (by decide)
  rw [Q1.out] at C
  go_wp2_with fail
  refine C.mono ?_
  rintro e w2 ⟨rfl, S2, U2⟩
  clear C S1 U1
  clear c0 c1 c2 z1 z2 k0 k1 k2 k3 k4 k5 k6 k7 f0 f1 f2 f3 f4 f5 f6 f7
  clear gb0 gb1 gb2
  have GB2 := (U2.block _ HGL.out HGN.out).trans GB0
  obtain ⟨⟨c0, c1, c2, z1, z2⟩, ⟨k0, k1, k2, k3, k4, k5, k6, k7⟩, ⟨f0, f1, f2, f3, f4, f5, f6, f7⟩⟩ := S2.cells
  have gb0 := cell_of_block GB2 0
  have gb1 := cell_of_block GB2 1
  have gb2 := cell_of_block GB2 2
  simp only [List.getElem?_toArray, List.getElem?_cons_zero, List.getElem?_cons_succ] at gb0 gb1 gb2
  go_wp2
  rw [rounds_succ]
  have C := has_t S2 U2 [126, 126] (by decide) (by decide)
  rw [Q2.out] at C
  go_wp2_with fail
  refine C.mono ?_
  rintro e w3 ⟨rfl, S3, U3⟩
  clear C S2 U2
  clear c0 c1 c2 z1 z2 k0 k1 k2 k3 k4 k5 k6 k7 f0 f1 f2 f3 f4 f5 f6 f7
  clear gb0 gb1 gb2
  have GB3 := (U3.block _ HGL.out HGN.out).trans GB0
  obtain ⟨⟨c0, c1, c2, z1, z2⟩, ⟨k0, k1, k2, k3, k4, k5, k6, k7⟩, ⟨f0, f1, f2, f3, f4, f5, f6, f7⟩⟩ := S3.cells
  have gb0 := cell_of_block GB3 0
  have gb1 := cell_of_block GB3 1
  have gb2 := cell_of_block GB3 2
  simp only [List.getElem?_toArray, List.getElem?_cons_zero, List.getElem?_cons_succ] at gb0 gb1 gb2
  go_wp2
  rw [rounds_succ]
  have C := has_t S3 U3 [91] (by decide) (by decide)
  rw [P0.out] at C
  go_wp2_with fail
  refine C.mono ?_
  rintro e w4 ⟨rfl, S4, U4⟩
  clear C S3 U3
  clear c0 c1 c2 z1 z2 k0 k1 k2 k3 k4 k5 k6 k7 f0 f1 f2 f3 f4 f5 f6 f7
  clear gb0 gb1 gb2
  have GB4 := (U4.block _ HGL.out HGN.out).trans GB0
  obtain ⟨⟨c0, c1, c2, z1, z2⟩, ⟨k0, k1, k2, k3, k4, k5, k6, k7⟩, ⟨f0, f1, f2, f3, f4, f5, f6, f7⟩⟩ := S4.cells
  have gb0 := cell_of_block GB4 0
  have gb1 := cell_of_block GB4 1
  have gb2 := cell_of_block GB4 2
  simp only [List.getElem?_toArray, List.getElem?_cons_zero, List.getElem?_cons_succ] at gb0 gb1 gb2
  have C := has_t S4 U4 [93] (by decide) (by decide)
  rw [P1.out] at C
  go_wp2_with fail
  refine C.mono ?_
  rintro e w5 ⟨rfl, S5, U5⟩
  clear C S4 U4
  clear c0 c1 c2 z1 z2 k0 k1 k2 k3 k4 k5 k6 k7 f0 f1 f2 f3 f4 f5 f6 f7
  clear gb0 gb1 gb2
  have GB5 := (U5.block _ HGL.out HGN.out).trans GB0
  obtain ⟨⟨c0, c1, c2, z1, z2⟩, ⟨k0, k1, k2, k3, k4, k5, k6, k7⟩, ⟨f0, f1, f2, f3, f4, f5, f6, f7⟩⟩ := S5.cells
  have gb0 := cell_of_block GB5 0
  have gb1 := cell_of_block GB5 1
  have gb2 := cell_of_block GB5 2
  simp only [List.getElem?_toArray, List.getElem?_cons_zero, List.getElem?_cons_succ] at gb0 gb1 gb2
  have S6 := S5.t0 12
  have U6 := T2.put U5 0 (.int .i64 12)
  clear S5 U5
  have S7 := S6.put1 (x := ((a : Nat) : Int) + 1) (a' := a + 1) (by omega) (by omega)
  have U7 := T2.at U6 1 (.int .i64 (((a : Nat) : Int) + 1))
  clear S6 U6
  have S8 := S7.put2 (x := ((k : Nat) : Int) - 1) (k' := k - 1) (by omega) (by omega)
  have U8 := T2.at U7 2 (.int .i64 (((k : Nat) : Int) - 1))
  clear S7 U7
  go_wp2
  go_ret
  exact ⟨rfl, S8, (lin.Turns.trans HAW.out U8)⟩
set_option maxHeartbeats 4000000 in
set_option maxRecDepth 100000 in
theorem rcl_d (rb tb : Nat) (ao : Option Addr) (n cap : Nat) (f : Nat → Int) (a k : Nat) (c p : Int) (st : Nat) (w : World) (h : RT w rb tb ao n cap f a k c p ⟨0, 0, 0, 0, [], false, st, 0⟩) (hk : 0 < k) (hk2 : k < 1000000) (hl : a + 1 ≤ n) (q0 : hasB f n (a) [38, 38] = false) (q1 : hasB f n (a) [45, 45] = false) (q2 : hasB f n (a) [126, 126] = false) (p0 : hasB f n (a) [91] = false) (p1 : hasB f n (a) [93] = false) (p2 : hasB f n (a) [45] = true) :
    Calls Tryz.prog 25 #[.pointer (some ⟨rb, 0, none⟩), .pointer (some ⟨tb, 0, none⟩)] w (RCl w rb tb ao n cap f a k c p st (some (bare 13, k, a + 1))) := by
  have Q0 : Hid (hasB f n (a) [38, 38] = false) := q0
  clear q0
  have Q1 : Hid (hasB f n (a) [45, 45] = false) := q1
  clear q1
  have Q2 : Hid (hasB f n (a) [126, 126] = false) := q2
  clear q2
  have P0 : Hid (hasB f n (a) [91] = false) := p0
  clear p0
  have P1 : Hid (hasB f n (a) [93] = false) := p1
  clear p1
  have P2 : Hid (hasB f n (a) [45] = true) := p2
  clear p2
  have hk3 : (0 : Int) < (k : Int) := by omega
  have hne : ¬ tb = rb := h.ne
  have hne' : ¬ rb = tb := fun e => h.ne e.symm
  have hn := h.rs.nn
  have ha := h.rs.aa
  have hcc := h.rs.cc
  have hcm := h.rs.cm
  have hrl := h.rs.lt
  have htl : tb < w.heap.size := (Array.getElem?_eq_some_iff.1 h.tk).1
  obtain ⟨W, hW⟩ : ∃ W, w.alloc (.cells #[.string ⟨#[38, 38]⟩, .string ⟨#[45, 45]⟩, .string ⟨#[126, 126]⟩] 9) = W := ⟨_, rfl⟩
  have BW : Below w.heap.size w W := by rw [← hW]; exact (Below.refl _ _).alloc (Nat.le_refl _) _
  have HAW : Hid (T2 rb tb w W) := lin.Turns.of_below BW
  have S0 : RT W rb tb ao n cap f a k c p _ := h.below BW
  have U0 : T2 rb tb W W := lin.Turns.refl _ W
  have GB : W.heap[w.heap.size]? = some (.cells #[.string ⟨#[38, 38]⟩, .string ⟨#[45, 45]⟩, .string ⟨#[126, 126]⟩] 9 (0, 0)) := by rw [← hW]; exact World.alloc_heap_new _ _
  have hgl : w.heap.size < W.heap.size := by rw [← hW]; simp
  have HGN : Hid (¬ (w.heap.size = rb ∨ w.heap.size = tb)) := by unfold Hid; omega
  have HGL : Hid (w.heap.size < W.heap.size) := hgl
  clear BW hgl hrl htl
  clear h
  obtain ⟨⟨c0, c1, c2, z1, z2⟩, ⟨k0, k1, k2, k3, k4, k5, k6, k7⟩, ⟨f0, f1, f2, f3, f4, f5, f6, f7⟩⟩ := S0.cells
  have gb0 := cell_of_block GB 0
  have gb1 := cell_of_block GB 1
  have gb2 := cell_of_block GB 2
  simp only [List.getElem?_toArray, List.getElem?_cons_zero, List.getElem?_cons_succ] at gb0 gb1 gb2
  go_enter Tryz.func25, Tryz.ntmps25
  have GB0 := GB
  go_wp2
  refine wp_loop_rounds 4 ?_
  rw [rounds_succ]
  have C := has_t S0 U0 [38, 38] (by decide) (by decide)
  rw [Q0.out] at C
  go_wp2_with fail
  refine C.mono ?_
  rintro e w1 ⟨rfl, S1, U1⟩
  clear C S0 U0
  clear c0 c1 c2 z1 z2 k0 k1 k2 k3 k4 k5 k6 k7 f0 f1 f2 f3 f4 f5 f6 f7
  clear gb0 gb1 gb2
  have GB1 := (U1.block _ HGL.out HGN.out).trans GB0
  obtain ⟨⟨c0, c1, c2, z1, z2⟩, ⟨k0, k1, k2, k3, k4, k5, k6, k7⟩, ⟨f0, f1, f2, f3, f4, f5, f6, f7⟩⟩ := S1.cells
  have gb0 := cell_of_block GB1 0
  have gb1 := cell_of_block GB1 1
  have gb2 := cell_of_block GB1 2
  simp only [List.getElem?_toArray, List.getElem?_cons_zero, List.getElem?_cons_succ] at gb0 gb1 gb2
  go_wp2
  rw [rounds_succ]
  have C := has_t S1 U1 [45, 45] (by decide) (by decide)
  rw [Q1.out] at C
  go_wp2_with fail
  refine C.mono ?_
  rintro e w2 ⟨rfl, S2, U2⟩
  clear C S1 U1
  clear c0 c1 c2 z1 z2 k0 k1 k2 k3 k4 k5 k6 k7 f0 f1 f2 f3 f4 f5 f6 f7
  clear gb0 gb1 gb2
  have GB2 := (U2.block _ HGL.out HGN.out).trans GB0
  obtain ⟨⟨c0, c1, c2, z1, z2⟩, ⟨k0, k1, k2, k3, k4, k5, k6, k7⟩, ⟨f0, f1, f2, f3, f4, f5, f6, f7⟩⟩ := S2.cells
  have gb0 := cell_of_block GB2 0
  have gb1 := cell_of_block GB2 1
  have gb2 := cell_of_block GB2 2
  simp only [List.getElem?_toArray, List.getElem?_cons_zero, List.getElem?_cons_succ] at gb0 gb1 gb2
  go_wp2
  rw [rounds_succ]
  have C := has_t S2 U2 [126, 126] (by decide) (by decide)
  rw [Q2.out] at C
  go_wp2_with fail
  refine C.mono ?_
  rintro e w3 ⟨rfl, S3, U3⟩
  clear C S2 U2
  clear c0 c1 c2 z1 z2 k0 k1 k2 k3 k4 k5 k6 k7 f0 f1 f2 f3 f4 f5 f6 f7
  clear gb0 gb1 gb2
  have GB3 := (U3.block _ HGL.out HGN.out).trans GB0
  obtain ⟨⟨c0, c1, c2, z1, z2⟩, ⟨k0, k1, k2, k3, k4, k5, k6, k7⟩, ⟨f0, f1, f2, f3, f4, f5, f6, f7⟩⟩ := S3.cells
  have gb0 := cell_of_block GB3 0
  have gb1 := cell_of_block GB3 1
  have gb2 := cell_of_block GB3 2
  simp only [List.getElem?_toArray, List.getElem?_cons_zero, List.getElem?_cons_succ] at gb0 gb1 gb2
  go_wp2
  rw [rounds_succ]
  have C := has_t S3 U3 [91] (by decide) (by decide)
  rw [P0.out] at C
  go_wp2_with fail
  refine C.mono ?_
  rintro e w4 ⟨rfl, S4, U4⟩
  clear C S3 U3
  clear c0 c1 c2 z1 z2 k0 k1 k2 k3 k4 k5 k6 k7 f0 f1 f2 f3 f4 f5 f6 f7
  clear gb0 gb1 gb2
  have GB4 := (U4.block _ HGL.out HGN.out).trans GB0
  obtain ⟨⟨c0, c1, c2, z1, z2⟩, ⟨k0, k1, k2, k3, k4, k5, k6, k7⟩, ⟨f0, f1, f2, f3, f4, f5, f6, f7⟩⟩ := S4.cells
  have gb0 := cell_of_block GB4 0
  have gb1 := cell_of_block GB4 1
  have gb2 := cell_of_block GB4 2
  simp only [List.getElem?_toArray, List.getElem?_cons_zero, List.getElem?_cons_succ] at gb0 gb1 gb2
  have C := has_t S4 U4 [93] (by decide) (by decide)
  rw [P1.out] at C
  go_wp2_with fail
  refine C.mono ?_
  rintro e w5 ⟨rfl, S5, U5⟩
  clear C S4 U4
  clear c0 c1 c2 z1 z2 k0 k1 k2 k3 k4 k5 k6 k7 f0 f1 f2 f3 f4 f5 f6 f7
  clear gb0 gb1 gb2
  have GB5 := (U5.block _ HGL.out HGN.out).trans GB0
  obtain ⟨⟨c0, c1, c2, z1, z2⟩, ⟨k0, k1, k2, k3, k4, k5, k6, k7⟩, ⟨f0, f1, f2, f3, f4, f5, f6, f7⟩⟩ := S5.cells
  have gb0 := cell_of_block GB5 0
  have gb1 := cell_of_block GB5 1
  have gb2 := cell_of_block GB5 2
  simp only [List.getElem?_toArray, List.getElem?_cons_zero, List.getElem?_cons_succ] at gb0 gb1 gb2
  have C := has_t S5 U5 [45] (by decide) (by decide)
  rw [P2.out] at C
  go_wp2_with fail
  refine C.mono ?_
  rintro e w6 ⟨rfl, S6, U6⟩
  clear C S5 U5
  clear c0 c1 c2 z1 z2 k0 k1 k2 k3 k4 k5 k6 k7 f0 f1 f2 f3 f4 f5 f6 f7
  clear gb0 gb1 gb2
  have GB6 := (U6.block _ HGL.out HGN.out).trans GB0
  obtain ⟨⟨c0, c1, c2, z1, z2⟩, ⟨k0, k1, k2, k3, k4, k5, k6, k7⟩, ⟨f0, f1, f2, f3, f4, f5, f6, f7⟩⟩ := S6.cells
  have gb0 := cell_of_block GB6 0
  have gb1 := cell_of_block GB6 1
  have gb2 := cell_of_block GB6 2
  simp only [List.getElem?_toArray, List.getElem?_cons_zero, List.getElem?_cons_succ] at gb0 gb1 gb2
  have S7 := S6.t0 13
  have U7 := T2.put U6 0 (.int .i64 13)
  clear S6 U6
  have S8 := S7.put1 (x := ((a : Nat) : Int) + 1) (a' := a + 1) (by omega) (by omega)
  have U8 := T2.at U7 1 (.int .i64 (((a : Nat) : Int) + 1))
  clear S7 U7
  go_wp2
  go_ret
  exact ⟨rfl, S8, (lin.Turns.trans HAW.out U8)⟩
end Go.Proofs.YtlgkfnecahgedaaGreatDoor.tok
end

section
/- The document's tokens of classes (TokRef15d). -/
set_option linter.unusedVariables false
set_option linter.unusedSimpArgs false
namespace Go.Proofs.YtlgkfnecahgedaaGreatDoor.tok
open Go.RowKit
open lin (BA Turns)

set_option maxHeartbeats 4000000 in
set_option maxRecDepth 100000 in
theorem rcl_x (rb tb : Nat) (ao : Option Addr) (n cap : Nat) (f : Nat → Int) (a k : Nat) (c p : Int) (st : Nat) (w : World) (h : RT w rb tb ao n cap f a k c p ⟨0, 0, 0, 0, [], false, st, 0⟩) (hk : 0 < k) (hk2 : k < 1000000) (q0 : hasB f n (a) [38, 38] = false) (q1 : hasB f n (a) [45, 45] = false) (q2 : hasB f n (a) [126, 126] = false) (p0 : hasB f n (a) [91] = false) (p1 : hasB f n (a) [93] = false) (p2 : hasB f n (a) [45] = false) :
    Calls Tryz.prog 25 #[.pointer (some ⟨rb, 0, none⟩), .pointer (some ⟨tb, 0, none⟩)] w (RCl w rb tb ao n cap f a k c p st none) := by
  have Q0 : Hid (hasB f n (a) [38, 38] = false) := q0
  clear q0
  have Q1 : Hid (hasB f n (a) [45, 45] = false) := q1
  clear q1
  have Q2 : Hid (hasB f n (a) [126, 126] = false) := q2
  clear q2
  have P0 : Hid (hasB f n (a) [91] = false) := p0
  clear p0
  have P1 : Hid (hasB f n (a) [93] = false) := p1
  clear p1
  have P2 : Hid (hasB f n (a) [45] = false) := p2
  clear p2
  have hk3 : (0 : Int) < (k : Int) := by omega
  have hne : ¬ tb = rb := h.ne
  have hne' : ¬ rb = tb := fun e => h.ne e.symm
  have hn := h.rs.nn
  have ha := h.rs.aa
  have hcc := h.rs.cc
  have hcm := h.rs.cm
  have hrl := h.rs.lt
  have htl : tb < w.heap.size := (Array.getElem?_eq_some_iff.1 h.tk).1
  obtain ⟨W, hW⟩ : ∃ W, w.alloc (.cells #[.string ⟨#[38, 38]⟩, .string ⟨#[45, 45]⟩, .string ⟨#[126, 126]⟩] 9) = W := ⟨_, rfl⟩
  have BW : Below w.heap.size w W := by rw [← hW]; exact (Below.refl _ _).alloc (Nat.le_refl _) _
  have HAW : Hid (T2 rb tb w W) := lin.Turns.of_below BW
  have S0 : RT W rb tb ao n cap f a k c p _ := h.below BW
  have U0 : T2 rb tb W W := lin.Turns.refl _ W
  have GB : W.heap[w.heap.size]? = some (.cells #[.string ⟨#[38, 38]⟩, .string ⟨#[45, 45]⟩, .string ⟨#[126, 126]⟩] 9 (0, 0)) := by rw [← hW]; exact World.alloc_heap_new _ _
  have hgl : w.heap.size < W.heap.size := by rw [← hW]; simp
  have HGN : Hid (¬ (w.heap.size = rb ∨ w.heap.size = tb)) := by unfold Hid; omega
  have HGL : Hid (w.heap.size < W.heap.size) := hgl
  clear BW hgl hrl htl
  clear h
  obtain ⟨⟨c0, c1, c2, z1, z2⟩, ⟨k0, k1, k2, k3, k4, k5, k6, k7⟩, ⟨f0, f1, f2, f3, f4, f5, f6, f7⟩⟩ := S0.cells
  have gb0 := cell_of_block GB 0
  have gb1 := cell_of_block GB 1
  have gb2 := cell_of_block GB 2
  simp only [List.getElem?_toArray, List.getElem?_cons_zero, List.getElem?_cons_succ] at gb0 gb1 gb2
  go_enter Tryz.func25, Tryz.ntmps25
  have GB0 := GB
  go_wp2
  refine wp_loop_rounds 4 ?_
  rw [rounds_succ]
  have C := has_t S0 U0 [38, 38] (by decide) (by decide)
  rw [Q0.out] at C
  go_wp2_with fail
  refine C.mono ?_
  rintro e w1 ⟨rfl, S1, U1⟩
  clear C S0 U0
  clear c0 c1 c2 z1 z2 k0 k1 k2 k3 k4 k5 k6 k7 f0 f1 f2 f3 f4 f5 f6 f7
  clear gb0 gb1 gb2
  have GB1 := (U1.block _ HGL.out HGN.out).trans GB0
  obtain ⟨⟨c0, c1, c2, z1, z2⟩, ⟨k0, k1, k2, k3, k4, k5, k6, k7⟩, ⟨f0, f1, f2, f3, f4, f5, f6, f7⟩⟩ := S1.cells
  have gb0 := cell_of_block GB1 0
  have gb1 := cell_of_block GB1 1
  have gb2 := cell_of_block GB1 2
  simp only [List.getElem?_toArray, List.getElem?_cons_zero, List.getElem?_cons_succ] at gb0 gb1 gb2
  go_wp2
  rw [rounds_succ]
  have C := has_t S1 U1 [45, 45] (by decide) (by decide)
  rw [Q1.out] at C
  go_wp2_with fail
  refine C.mono ?_
  rintro e w2 ⟨rfl, S2, U2⟩
  clear C S1 U1
  clear c0 c1 c2 z1 z2 k0 k1 k2 k3 k4 k5 k6 k7 f0 f1 f2 f3 f4 f5 f6 f7
  clear gb0 gb1 gb2
  have GB2 := (U2.block _ HGL.out HGN.out).trans GB0
  obtain ⟨⟨c0, c1, c2, z1, z2⟩, ⟨k0, k1, k2, k3, k4, k5, k6, k7⟩, ⟨f0, f1, f2, f3, f4, f5, f6, f7⟩⟩ := S2.cells
  have gb0 := cell_of_block GB2 0
  have gb1 := cell_of_block GB2 1
  have gb2 := cell_of_block GB2 2
  simp only [List.getElem?_toArray, List.getElem?_cons_zero, List.getElem?_cons_succ] at gb0 gb1 gb2
  go_wp2
  rw [rounds_succ]
  have C := has_t S2 U2 [126, 126] (by decide) (by decide)
  rw [Q2.out] at C
  go_wp2_with fail
  refine C.mono ?_
  rintro e w3 ⟨rfl, S3, U3⟩
  clear C S2 U2
  clear c0 c1 c2 z1 z2 k0 k1 k2 k3 k4 k5 k6 k7 f0 f1 f2 f3 f4 f5 f6 f7
  clear gb0 gb1 gb2
  have GB3 := (U3.block _ HGL.out HGN.out).trans GB0
  obtain ⟨⟨c0, c1, c2, z1, z2⟩, ⟨k0, k1, k2, k3, k4, k5, k6, k7⟩, ⟨f0, f1, f2, f3, f4, f5, f6, f7⟩⟩ := S3.cells
  have gb0 := cell_of_block GB3 0
  have gb1 := cell_of_block GB3 1
  have gb2 := cell_of_block GB3 2
  simp only [List.getElem?_toArray, List.getElem?_cons_zero, List.getElem?_cons_succ] at gb0 gb1 gb2
  go_wp2
  rw [rounds_succ]
  have C := has_t S3 U3 [91] (by decide) (by decide)
  rw [P0.out] at C
  go_wp2_with fail
  refine C.mono ?_
  rintro e w4 ⟨rfl, S4, U4⟩
  clear C S3 U3
  clear c0 c1 c2 z1 z2 k0 k1 k2 k3 k4 k5 k6 k7 f0 f1 f2 f3 f4 f5 f6 f7
  clear gb0 gb1 gb2
  have GB4 := (U4.block _ HGL.out HGN.out).trans GB0
  obtain ⟨⟨c0, c1, c2, z1, z2⟩, ⟨k0, k1, k2, k3, k4, k5, k6, k7⟩, ⟨f0, f1, f2, f3, f4, f5, f6, f7⟩⟩ := S4.cells
  have gb0 := cell_of_block GB4 0
  have gb1 := cell_of_block GB4 1
  have gb2 := cell_of_block GB4 2
  simp only [List.getElem?_toArray, List.getElem?_cons_zero, List.getElem?_cons_succ] at gb0 gb1 gb2
  have C := has_t S4 U4 [93] (by decide) (by decide)
  rw [P1.out] at C
  go_wp2_with fail
  refine C.mono ?_
  rintro e w5 ⟨rfl, S5, U5⟩
  clear C S4 U4
  clear c0 c1 c2 z1 z2 k0 k1 k2 k3 k4 k5 k6 k7 f0 f1 f2 f3 f4 f5 f6 f7
  clear gb0 gb1 gb2
  have GB5 := (U5.block _ HGL.out HGN.out).trans GB0
  obtain ⟨⟨c0, c1, c2, z1, z2⟩, ⟨k0, k1, k2, k3, k4, k5, k6, k7⟩, ⟨f0, f1, f2, f3, f4, f5, f6, f7⟩⟩ := S5.cells
  have gb0 := cell_of_block GB5 0
  have gb1 := cell_of_block GB5 1
  have gb2 := cell_of_block GB5 2
  simp only [List.getElem?_toArray, List.getElem?_cons_zero, List.getElem?_cons_succ] at gb0 gb1 gb2
  have C := has_t S5 U5 [45] (by decide) (by decide)
  rw [P2.out] at C
  go_wp2_with fail
  refine C.mono ?_
  rintro e w6 ⟨rfl, S6, U6⟩
  clear C S5 U5
  clear c0 c1 c2 z1 z2 k0 k1 k2 k3 k4 k5 k6 k7 f0 f1 f2 f3 f4 f5 f6 f7
  clear gb0 gb1 gb2
  have GB6 := (U6.block _ HGL.out HGN.out).trans GB0
  obtain ⟨⟨c0, c1, c2, z1, z2⟩, ⟨k0, k1, k2, k3, k4, k5, k6, k7⟩, ⟨f0, f1, f2, f3, f4, f5, f6, f7⟩⟩ := S6.cells
  have gb0 := cell_of_block GB6 0
  have gb1 := cell_of_block GB6 1
  have gb2 := cell_of_block GB6 2
  simp only [List.getElem?_toArray, List.getElem?_cons_zero, List.getElem?_cons_succ] at gb0 gb1 gb2
  go_wp2
  go_ret
  exact ⟨rfl, S6, (lin.Turns.trans HAW.out U6)⟩
set_option maxHeartbeats 4000000 in
set_option maxRecDepth 100000 in
theorem rcl_n0 (rb tb : Nat) (ao : Option Addr) (n cap : Nat) (f : Nat → Int) (a k : Nat) (c p : Int) (st : Nat) (w : World) (h : RT w rb tb ao n cap f a k c p ⟨0, 0, 0, 0, [], false, st, 0⟩) (hk : k = 0) (hk2 : k < 1000000) (hl : a + 2 ≤ n) (p0 : hasB f n (a) [91] = true) (p1 : hasB f n (a + 1) [94] = true) :
    Calls Tryz.prog 25 #[.pointer (some ⟨rb, 0, none⟩), .pointer (some ⟨tb, 0, none⟩)] w (RCl w rb tb ao n cap f a k c p st (some (classT true, k + 1, a + 2))) := by
  have P0 : Hid (hasB f n (a) [91] = true) := p0
  clear p0
  have P1 : Hid (hasB f n (a + 1) [94] = true) := p1
  clear p1
  have hk3 : ¬ (0 : Int) < (k : Int) := by omega
  clear hk
  have hne : ¬ tb = rb := h.ne
  have hne' : ¬ rb = tb := fun e => h.ne e.symm
  have hn := h.rs.nn
  have ha := h.rs.aa
  have hcc := h.rs.cc
  have hcm := h.rs.cm
  have hrl := h.rs.lt
  have htl : tb < w.heap.size := (Array.getElem?_eq_some_iff.1 h.tk).1
  obtain ⟨W, hW⟩ : ∃ W, w.alloc (.cells #[.string ⟨#[38, 38]⟩, .string ⟨#[45, 45]⟩, .string ⟨#[126, 126]⟩] 9) = W := ⟨_, rfl⟩
  have BW : Below w.heap.size w W := by rw [← hW]; exact (Below.refl _ _).alloc (Nat.le_refl _) _
  have HAW : Hid (T2 rb tb w W) := lin.Turns.of_below BW
  have S0 : RT W rb tb ao n cap f a k c p _ := h.below BW
  have U0 : T2 rb tb W W := lin.Turns.refl _ W
  have GB : W.heap[w.heap.size]? = some (.cells #[.string ⟨#[38, 38]⟩, .string ⟨#[45, 45]⟩, .string ⟨#[126, 126]⟩] 9 (0, 0)) := by rw [← hW]; exact World.alloc_heap_new _ _
  have hgl : w.heap.size < W.heap.size := by rw [← hW]; simp
  have HGN : Hid (¬ (w.heap.size = rb ∨ w.heap.size = tb)) := by unfold Hid; omega
  have HGL : Hid (w.heap.size < W.heap.size) := hgl
  clear BW hgl hrl htl
  clear h
  obtain ⟨⟨c0, c1, c2, z1, z2⟩, ⟨k0, k1, k2, k3, k4, k5, k6, k7⟩, ⟨f0, f1, f2, f3, f4, f5, f6, f7⟩⟩ := S0.cells
  have gb0 := cell_of_block GB 0
  have gb1 := cell_of_block GB 1
  have gb2 := cell_of_block GB 2
  simp only [List.getElem?_toArray, List.getElem?_cons_zero, List.getElem?_cons_succ] at gb0 gb1 gb2
  go_enter Tryz.func25, Tryz.ntmps25
  have GB0 := GB
  go_wp2
  refine wp_loop_rounds 4 ?_
  rw [rounds_succ]
  go_wp2
  rw [rounds_succ]
  go_wp2
  rw [rounds_succ]
  go_wp2
  rw [rounds_succ]
  have C := has_t S0 U0 [91] (by decide) (by decide)
  rw [P0.out] at C
  go_wp2_with fail
  refine C.mono ?_
  rintro e w1 ⟨rfl, S1, U1⟩
  clear C S0 U0
  clear c0 c1 c2 z1 z2 k0 k1 k2 k3 k4 k5 k6 k7 f0 f1 f2 f3 f4 f5 f6 f7
  clear gb0 gb1 gb2
  have GB1 := (U1.block _ HGL.out HGN.out).trans GB0
  obtain ⟨⟨c0, c1, c2, z1, z2⟩, ⟨k0, k1, k2, k3, k4, k5, k6, k7⟩, ⟨f0, f1, f2, f3, f4, f5, f6, f7⟩⟩ := S1.cells
  have gb0 := cell_of_block GB1 0
  have gb1 := cell_of_block GB1 1
  have gb2 := cell_of_block GB1 2
  simp only [List.getElem?_toArray, List.getElem?_cons_zero, List.getElem?_cons_succ] at gb0 gb1 gb2
  have S2 := S1.t0 11
  have U2 := T2.put U1 0 (.int .i64 11)
  clear S1 U1
  have S3 := S2.put1 (x := ((a : Nat) : Int) + 1) (a' := a + 1) (by omega) (by omega)
  have U3 := T2.at U2 1 (.int .i64 (((a : Nat) : Int) + 1))
  clear S2 U2
  have C := has_t S3 U3 [94] (by decide) (by decide)
  rw [P1.out] at C
  go_wp2_with fail
  refine C.mono ?_
  rintro e w4 ⟨rfl, S4, U4⟩
  clear C S3 U3
  clear c0 c1 c2 z1 z2 k0 k1 k2 k3 k4 k5 k6 k7 f0 f1 f2 f3 f4 f5 f6 f7
  clear gb0 gb1 gb2
  have GB4 := (U4.block _ HGL.out HGN.out).trans GB0
  obtain ⟨⟨c0, c1, c2, z1, z2⟩, ⟨k0, k1, k2, k3, k4, k5, k6, k7⟩, ⟨f0, f1, f2, f3, f4, f5, f6, f7⟩⟩ := S4.cells
  have gb0 := cell_of_block GB4 0
  have gb1 := cell_of_block GB4 1
  have gb2 := cell_of_block GB4 2
  simp only [List.getElem?_toArray, List.getElem?_cons_zero, List.getElem?_cons_succ] at gb0 gb1 gb2
  have S5 := S4.t5 true
  have U5 := T2.put U4 5 (.bool true)
  clear S4 U4
  have S6 := S5.put1 (x := ((a + 1 : Nat) : Int) + 1) (a' := a + 1 + 1) (by omega) (by omega)
  have U6 := T2.at U5 1 (.int .i64 (((a + 1 : Nat) : Int) + 1))
  clear S5 U5
  have S7 := S6.put2 (x := ((k : Nat) : Int) + 1) (k' := k + 1) (by omega) (by omega)
  have U7 := T2.at U6 2 (.int .i64 (((k : Nat) : Int) + 1))
  clear S6 U6
  go_wp2
  go_ret
  exact ⟨rfl, S7, (lin.Turns.trans HAW.out U7)⟩
set_option maxHeartbeats 4000000 in
set_option maxRecDepth 100000 in
theorem rcl_o0 (rb tb : Nat) (ao : Option Addr) (n cap : Nat) (f : Nat → Int) (a k : Nat) (c p : Int) (st : Nat) (w : World) (h : RT w rb tb ao n cap f a k c p ⟨0, 0, 0, 0, [], false, st, 0⟩) (hk : k = 0) (hk2 : k < 1000000) (hl : a + 1 ≤ n) (p0 : hasB f n (a) [91] = true) (p1 : hasB f n (a + 1) [94] = false) :
    Calls Tryz.prog 25 #[.pointer (some ⟨rb, 0, none⟩), .pointer (some ⟨tb, 0, none⟩)] w (RCl w rb tb ao n cap f a k c p st (some (classT false, k + 1, a + 1))) := by
  have P0 : Hid (hasB f n (a) [91] = true) := p0
  clear p0
  have P1 : Hid (hasB f n (a + 1) [94] = false) := p1
  clear p1
  have hk3 : ¬ (0 : Int) < (k : Int) := by omega
  clear hk
  have hne : ¬ tb = rb := h.ne
  have hne' : ¬ rb = tb := fun e => h.ne e.symm
  have hn := h.rs.nn
  have ha := h.rs.aa
  have hcc := h.rs.cc
  have hcm := h.rs.cm
  have hrl := h.rs.lt
  have htl : tb < w.heap.size := (Array.getElem?_eq_some_iff.1 h.tk).1
  obtain ⟨W, hW⟩ : ∃ W, w.alloc (.cells #[.string ⟨#[38, 38]⟩, .string ⟨#[45, 45]⟩, .string ⟨#[126, 126]⟩] 9) = W := ⟨_, rfl⟩
  have BW : Below w.heap.size w W := by rw [← hW]; exact (Below.refl _ _).alloc (Nat.le_refl _) _
  have HAW : Hid (T2 rb tb w W) := lin.Turns.of_below BW
  have S0 : RT W rb tb ao n cap f a k c p _ := h.below BW
  have U0 : T2 rb tb W W := lin.Turns.refl _ W
  have GB : W.heap[w.heap.size]? = some (.cells #[.string ⟨#[38, 38]⟩, .string ⟨#[45, 45]⟩, .string ⟨#[126, 126]⟩] 9 (0, 0)) := by rw [← hW]; exact World.alloc_heap_new _ _
  have hgl : w.heap.size < W.heap.size := by rw [← hW]; simp
  have HGN : Hid (¬ (w.heap.size = rb ∨ w.heap.size = tb)) := by unfold Hid; omega
  have HGL : Hid (w.heap.size < W.heap.size) := hgl
  clear BW hgl hrl htl
  clear h
  obtain ⟨⟨c0, c1, c2, z1, z2⟩, ⟨k0, k1, k2, k3, k4, k5, k6, k7⟩, ⟨f0, f1, f2, f3, f4, f5, f6, f7⟩⟩ := S0.cells
  have gb0 := cell_of_block GB 0
  have gb1 := cell_of_block GB 1
  have gb2 := cell_of_block GB 2
  simp only [List.getElem?_toArray, List.getElem?_cons_zero, List.getElem?_cons_succ] at gb0 gb1 gb2
  go_enter Tryz.func25, Tryz.ntmps25
  have GB0 := GB
  go_wp2
  refine wp_loop_rounds 4 ?_
  rw [rounds_succ]
  go_wp2
  rw [rounds_succ]
  go_wp2
  rw [rounds_succ]
  go_wp2
  rw [rounds_succ]
  have C := has_t S0 U0 [91] (by decide) (by decide)
  rw [P0.out] at C
  go_wp2_with fail
  refine C.mono ?_
  rintro e w1 ⟨rfl, S1, U1⟩
  clear C S0 U0
  clear c0 c1 c2 z1 z2 k0 k1 k2 k3 k4 k5 k6 k7 f0 f1 f2 f3 f4 f5 f6 f7
  clear gb0 gb1 gb2
  have GB1 := (U1.block _ HGL.out HGN.out).trans GB0
  obtain ⟨⟨c0, c1, c2, z1, z2⟩, ⟨k0, k1, k2, k3, k4, k5, k6, k7⟩, ⟨f0, f1, f2, f3, f4, f5, f6, f7⟩⟩ := S1.cells
  have gb0 := cell_of_block GB1 0
  have gb1 := cell_of_block GB1 1
  have gb2 := cell_of_block GB1 2
  simp only [List.getElem?_toArray, List.getElem?_cons_zero, List.getElem?_cons_succ] at gb0 gb1 gb2
  have S2 := S1.t0 11
  have U2 := T2.put U1 0 (.int .i64 11)
  clear S1 U1
  have S3 := S2.put1 (x := ((a : Nat) : Int) + 1) (a' := a + 1) (by omega) (by omega)
  have U3 := T2.at U2 1 (.int .i64 (((a : Nat) : Int) + 1))
  clear S2 U2
  have C := has_t S3 U3 [94] (by decide) (by decide)
  rw [P1.out] at C
  go_wp2_with fail
  refine C.mono ?_
  rintro e w4 ⟨rfl, S4, U4⟩
  clear C S3 U3
  clear c0 c1 c2 z1 z2 k0 k1 k2 k3 k4 k5 k6 k7 f0 f1 f2 f3 f4 f5 f6 f7
  clear gb0 gb1 gb2
  have GB4 := (U4.block _ HGL.out HGN.out).trans GB0
  obtain ⟨⟨c0, c1, c2, z1, z2⟩, ⟨k0, k1, k2, k3, k4, k5, k6, k7⟩, ⟨f0, f1, f2, f3, f4, f5, f6, f7⟩⟩ := S4.cells
  have gb0 := cell_of_block GB4 0
  have gb1 := cell_of_block GB4 1
  have gb2 := cell_of_block GB4 2
  simp only [List.getElem?_toArray, List.getElem?_cons_zero, List.getElem?_cons_succ] at gb0 gb1 gb2
  have S5 := S4.put2 (x := ((k : Nat) : Int) + 1) (k' := k + 1) (by omega) (by omega)
  have U5 := T2.at U4 2 (.int .i64 (((k : Nat) : Int) + 1))
  clear S4 U4
  go_wp2
  go_ret
  exact ⟨rfl, S5, (lin.Turns.trans HAW.out U5)⟩
set_option maxHeartbeats 4000000 in
set_option maxRecDepth 100000 in
theorem rcl_x0 (rb tb : Nat) (ao : Option Addr) (n cap : Nat) (f : Nat → Int) (a k : Nat) (c p : Int) (st : Nat) (w : World) (h : RT w rb tb ao n cap f a k c p ⟨0, 0, 0, 0, [], false, st, 0⟩) (hk : k = 0) (hk2 : k < 1000000) (p0 : hasB f n (a) [91] = false) :
    Calls Tryz.prog 25 #[.pointer (some ⟨rb, 0, none⟩), .pointer (some ⟨tb, 0, none⟩)] w (RCl w rb tb ao n cap f a k c p st none) := by
  have P0 : Hid (hasB f n (a) [91] = false) := p0
  clear p0
  have hk3 : ¬ (0 : Int) < (k : Int) := by omega
  clear hk
  have hne : ¬ tb = rb := h.ne
  have hne' : ¬ rb = tb := fun e => h.ne e.symm
  have hn := h.rs.nn
  have ha := h.rs.aa
  have hcc := h.rs.cc
  have hcm := h.rs.cm
  have hrl := h.rs.lt
  have htl : tb < w.heap.size := (Array.getElem?_eq_some_iff.1 h.tk).1
  obtain ⟨W, hW⟩ : ∃ W, w.alloc (.cells #[.string ⟨#[38, 38]⟩, .string ⟨#[45, 45]⟩, .string ⟨#[126, 126]⟩] 9) = W := ⟨_, rfl⟩
  have BW : Below w.heap.size w W := by rw [← hW]; exact (Below.refl _ _).alloc (Nat.le_refl _) _
  have HAW : Hid (T2 rb tb w W) := lin.Turns.of_below BW
  have S0 : RT W rb tb ao n cap f a k c p _ := h.below BW
  have U0 : T2 rb tb W W := lin.Turns.refl _ W
  have GB : W.heap[w.heap.size]? = some (.cells #[.string ⟨#[38, 38]⟩, .string ⟨#[45, 45]⟩, .string ⟨#[126, 126]⟩] 9 (0, 0)) := by rw [← hW]; exact World.alloc_heap_new _ _
  have hgl : w.heap.size < W.heap.size := by rw [← hW]; simp
  have HGN : Hid (¬ (w.heap.size = rb ∨ w.heap.size = tb)) := by unfold Hid; omega
  have HGL : Hid (w.heap.size < W.heap.size) := hgl
  clear BW hgl hrl htl
  clear h
  obtain ⟨⟨c0, c1, c2, z1, z2⟩, ⟨k0, k1, k2, k3, k4, k5, k6, k7⟩, ⟨f0, f1, f2, f3, f4, f5, f6, f7⟩⟩ := S0.cells
  have gb0 := cell_of_block GB 0
  have gb1 := cell_of_block GB 1
  have gb2 := cell_of_block GB 2
  simp only [List.getElem?_toArray, List.getElem?_cons_zero, List.getElem?_cons_succ] at gb0 gb1 gb2
  go_enter Tryz.func25, Tryz.ntmps25
  have GB0 := GB
  go_wp2
  refine wp_loop_rounds 4 ?_
  rw [rounds_succ]
  go_wp2
  rw [rounds_succ]
  go_wp2
  rw [rounds_succ]
  go_wp2
  rw [rounds_succ]
  have C := has_t S0 U0 [91] (by decide) (by decide)
  rw [P0.out] at C
  go_wp2_with fail
  refine C.mono ?_
  rintro e w1 ⟨rfl, S1, U1⟩
  clear C S0 U0
  clear c0 c1 c2 z1 z2 k0 k1 k2 k3 k4 k5 k6 k7 f0 f1 f2 f3 f4 f5 f6 f7
  clear gb0 gb1 gb2
  have GB1 := (U1.block _ HGL.out HGN.out).trans GB0
  obtain ⟨⟨c0, c1, c2, z1, z2⟩, ⟨k0, k1, k2, k3, k4, k5, k6, k7⟩, ⟨f0, f1, f2, f3, f4, f5, f6, f7⟩⟩ := S1.cells
  have gb0 := cell_of_block GB1 0
  have gb1 := cell_of_block GB1 1
  have gb2 := cell_of_block GB1 2
  simp only [List.getElem?_toArray, List.getElem?_cons_zero, List.getElem?_cons_succ] at gb0 gb1 gb2
  go_wp2
  go_ret
  exact ⟨rfl, S1, (lin.Turns.trans HAW.out U1)⟩
end Go.Proofs.YtlgkfnecahgedaaGreatDoor.tok
end

section
/- Tokens stand one behind the other; a fault stands behind them. Plain mathematics. -/
set_option linter.unusedVariables false
set_option linter.unusedSimpArgs false
namespace Go.Proofs.YtlgkfnecahgedaaGreatDoor.tok
open utf (it len it_end)

/-- Tokens that stand one behind the other, from a to b. -/
def Chain : Nat → List Tk → Nat → Prop
  | a, [], b => a = b
  | a, t :: l, b => t.s = a ∧ a < t.e ∧ 1 ≤ t.kind ∧ t.kind ≤ 14 ∧ Chain t.e l b
theorem Chain.le : ∀ {a : Nat} {l : List Tk} {b : Nat}, Chain a l b → a ≤ b
  | a, [], b, h => Nat.le_of_eq h
  | a, t :: l, b, h => Nat.le_trans (Nat.le_of_lt h.2.1) (Chain.le h.2.2.2.2)
/-- Where tokens end. -/
def endT : Nat → List Tk → Nat
  | a, [] => a
  | _, t :: l => endT t.e l
theorem Chain.end_ : ∀ {a : Nat} {l : List Tk} {b : Nat}, Chain a l b → endT a l = b
  | a, [], b, h => h
  | a, t :: l, b, h => by show endT t.e l = b; exact Chain.end_ h.2.2.2.2

section
variable (f : Nat → Int) (n : Nat)
theorem scanR_chain : ∀ m a k, n ≤ a + m → a ≤ n → ∃ b, Chain a (scanR f n m a k).1 b ∧ b ≤ n ∧ ((scanR f n m a k).2.1 = 0 → b = n) ∧ ((scanR f n m a k).2.1 ≠ 0 → b ≤ (scanR f n m a k).2.2 ∧ (scanR f n m a k).2.2 ≤ n) := by
  intro m
  induction m with
  | zero => intro a k h ha; exact ⟨a, rfl, ha, fun _ => by omega, fun h => absurd rfl h⟩
  | succ m ih =>
    intro a k h ha
    simp only [scanR]
    by_cases hl : a < n
    · rw [if_pos hl]
      cases ho : token f n a k with
      | no c p =>
        have h1 := token_in f n a k ha
        rw [ho] at h1
        exact ⟨a, rfl, ha, fun e => absurd e h1.1, fun _ => h1.2⟩
      | ok t a' =>
        have hv := token_val f n ho ha
        obtain ⟨b, h1, h2, h3, h4⟩ := ih a' t.2 (by omega) hv.2.1
        exact ⟨b, ⟨rfl, hv.1, hv.2.2.2.1, hv.2.2.2.2, h1⟩, h2, h3, h4⟩
    · rw [if_neg hl]
      exact ⟨a, rfl, ha, fun _ => by omega, fun h => absurd rfl h⟩
theorem scanL_chain : ∃ b, Chain 0 (scanL f n).1 b ∧ b ≤ n ∧ ((scanL f n).2.1 = 0 → b = n) ∧ ((scanL f n).2.1 ≠ 0 → b ≤ (scanL f n).2.2 ∧ (scanL f n).2.2 ≤ n) := by
  unfold scanL
  split
  · exact scanR_chain f n n 0 0 (by omega) (Nat.zero_le _)
  · exact ⟨0, rfl, Nat.zero_le _, fun h => by simp at h, fun _ => ⟨Nat.zero_le _, by show 2000 ≤ n; omega⟩⟩
theorem Chain.len : ∀ {a : Nat} {l : List Tk} {b : Nat}, Chain a l b → a + l.length ≤ b
  | a, [], b, h => Nat.le_of_eq h
  | a, t :: l, b, h => by have := Chain.len h.2.2.2.2; have := h.2.1; simp only [List.length_cons]; omega
theorem Chain.ends : ∀ {a : Nat} {l : List Tk} {b : Nat}, Chain a l b → ∀ t ∈ l, a ≤ t.s ∧ t.e ≤ b ∧ t.s < t.e
  | a, [], b, h => by simp
  | a, t :: l, b, h => by
    intro x hx
    have hle := Chain.le h.2.2.2.2
    have h1 := h.1
    have h2 := h.2.1
    rcases List.mem_cons.1 hx with rfl | hx
    · omega
    · have := Chain.ends h.2.2.2.2 x hx
      omega
theorem Chain.drop : ∀ {a : Nat} {l : List Tk} {b : Nat}, Chain a l b → ∀ i t, l[i]? = some t → endT a (l.take i) = t.s
  | a, [], b, h, i, t, e => by simp at e
  | a, x :: l, b, h, 0, t, e => by simp at e; subst e; exact h.1.symm
  | a, x :: l, b, h, i + 1, t, e => by simp at e; simp only [List.take_succ_cons, endT]; exact Chain.drop h.2.2.2.2 i t e
theorem endT_snoc : ∀ (a : Nat) (l : List Tk) (i : Nat) (t : Tk), l[i]? = some t → endT a (l.take (i + 1)) = t.e
  | a, [], i, t, e => by simp at e
  | a, x :: l, 0, t, e => by simp at e; subst e; simp [endT]
  | a, x :: l, i + 1, t, e => by simp at e; simp only [List.take_succ_cons, endT]; exact endT_snoc _ l i t e
theorem Chain.kind : ∀ {a : Nat} {l : List Tk} {b : Nat}, Chain a l b → ∀ t ∈ l, 1 ≤ t.kind ∧ t.kind ≤ 14
  | a, [], b, h => by simp
  | a, t :: l, b, h => by
    intro x hx
    rcases List.mem_cons.1 hx with rfl | hx
    · exact ⟨h.2.2.1, h.2.2.2.1⟩
    · exact Chain.kind h.2.2.2.2 x hx
end
end Go.Proofs.YtlgkfnecahgedaaGreatDoor.tok
end

section
/- What a pattern says for a code point is one token. Plain mathematics. -/
set_option linter.unusedVariables false
set_option linter.unusedSimpArgs false
namespace Go.Proofs.YtlgkfnecahgedaaGreatDoor.tok
open utf (it len it_end enc it_ext it_shift it_enc enc_pos enc_of_1 len_1)

/-- These bytes stand at a place. -/
def Here (f : Nat → Int) (n a : Nat) (L : List Int) : Prop := a + L.length ≤ n ∧ ∀ i, i < L.length → f (a + i) = L.getD i 0
theorem Here.left {f : Nat → Int} {n a : Nat} {L M : List Int} (h : Here f n a (L ++ M)) : Here f n a L := by
  refine ⟨by have := h.1; simp at this; omega, fun i hi => ?_⟩
  have := h.2 i (by simp; omega)
  rw [this]
  simp [List.getD, List.getElem?_append_left hi]
theorem Here.right {f : Nat → Int} {n a : Nat} {L M : List Int} (h : Here f n a (L ++ M)) : Here f n (a + L.length) M := by
  refine ⟨by have := h.1; simp at this; omega, fun i hi => ?_⟩
  have := h.2 (L.length + i) (by simp; omega)
  rw [Nat.add_assoc, this]
  simp [List.getD, List.getElem?_append_right (Nat.le_add_right L.length i)]
theorem point_here {f : Nat → Int} {n a : Nat} {r : Int} (hr : len r ≠ 0) (h : Here f n a (enc r)) : point f n a = .ok r (a + (enc r).length) := by
  have hp := enc_pos r hr
  have h1 := h.1
  have e1 := it_ext (fun i => (enc r).getD i 0) (fun i => f (a + i)) (enc r).length (n - a) 0 (by omega) hp.1 (fun i hi => h.2 i hi) (by rw [it_enc r hr])
  rw [it_enc r hr, it_shift, show a + (n - a) = n by omega, show a + 0 = a by omega] at e1
  have he := it_end f n a (by omega)
  have e2 : (it f n a).1 = r := congrArg (·.1) e1
  have e3 : (it f n a).2.1 - a = (enc r).length := congrArg (·.2.1) e1
  have e4 : (it f n a).2.2 = true := congrArg (·.2.2) e1
  unfold point
  rw [if_pos (by omega), if_pos e4, e2, show (it f n a).2.1 = a + (enc r).length by omega]
theorem enc_low (r : Int) (h0 : 0 ≤ r) (h1 : r ≤ 127) : enc r = [r] := enc_of_1 r (len_1 r h0 h1)
theorem len_low (r : Int) (h0 : 0 ≤ r) (h1 : r ≤ 127) : len r ≠ 0 := by rw [len_1 r h0 h1]; decide
/-- A byte below 128 is a code point. -/
theorem point_low {f : Nat → Int} {n a : Nat} {r : Int} (h0 : 0 ≤ r) (h1 : r ≤ 127) (ha : a < n) (hf : f a = r) : point f n a = .ok r (a + 1) := by
  have := point_here (f := f) (n := n) (a := a) (len_low r h0 h1) (by rw [enc_low r h0 h1]; exact ⟨by simp; omega, fun i hi => by simp at hi; subst hi; simpa using hf⟩)
  rw [enc_low r h0 h1] at this
  exact this

def dU (d : Int) : Int := if d < 10 then 48 + d else 55 + d
def hexU (r : Int) : List Int := if r < 16 then [dU r] else [dU (r / 16), dU (r % 16)]
def marksO : List Int := [46, 91, 40, 41, 124, 42, 43, 63, 123, 94, 36, 92]
def marksC : List Int := [91, 93, 94, 45, 38, 126, 92]
/-- What a pattern says for a code point. -/
def printL (r : Int) (cls : Bool) : List Int :=
  if len r = 0 then [] else if r < 32 ∨ r = 127 then [92, 120, 123] ++ hexU r ++ [125]
  else if r ∈ (if cls = true then marksC else marksO) then 92 :: enc r else enc r
theorem marks_low (r : Int) (cls : Bool) (h : r ∈ (if cls = true then marksC else marksO)) : 32 ≤ r ∧ r ≤ 126 ∧ letterB r = false ∧ digitB r = false ∧ ¬ (r = 100 ∨ r = 119 ∨ r = 115 ∨ r = 68 ∨ r = 87 ∨ r = 83 ∨ r = 112 ∨ r = 80 ∨ r = 110 ∨ r = 116 ∨ r = 114 ∨ r = 120) := by
  cases cls
  · simp only [Bool.false_eq_true, if_false, marksO, List.mem_cons, List.not_mem_nil, or_false] at h
    rcases h with rfl | rfl | rfl | rfl | rfl | rfl | rfl | rfl | rfl | rfl | rfl | rfl <;> decide
  · simp only [if_true, marksC, List.mem_cons, List.not_mem_nil, or_false] at h
    rcases h with rfl | rfl | rfl | rfl | rfl | rfl | rfl <;> decide

section
variable (f : Nat → Int) (n : Nat)
theorem octet_at {a : Nat} {c : Int} (ha : a < n) (h : f a = c) : octet f n a = .ok c (a + 1) := by unfold octet; rw [if_pos ha, h]
theorem want_at {st a : Nat} {c : Int} (ha : a < n) (h : f a = c) : want f n st c a = .ok () (a + 1) := by unfold want; rw [octet_at f n ha h, bind_ok, if_pos rfl]
theorem dU_dg (d : Int) (h0 : 0 ≤ d) (h1 : d < 16) : dgV (dU d) 16 = d := by unfold dU dgV; (repeat' split) <;> omega
theorem number_one {st a : Nat} {d : Int} (h0 : 0 ≤ d) (h1 : d < 16) (ha : a + 1 < n) (hd : f a = dU d) (he : f (a + 1) = 125) : number f n st 16 6 a = .ok (d, 125) (a + 2) := by
  unfold number
  rw [numR_step, octet_at f n (by omega) hd, bind_ok, if_pos (by rw [dU_dg d h0 h1]; omega)]
  simp only []
  rw [numR_step, octet_at f n ha he, bind_ok, if_neg (by decide), if_neg (by decide), dU_dg d h0 h1]
  simp
theorem number_two {st a : Nat} {d e : Int} (h0 : 0 ≤ d) (h1 : d < 16) (h2 : 0 ≤ e) (h3 : e < 16) (ha : a + 2 < n) (hd : f a = dU d) (he : f (a + 1) = dU e) (hf : f (a + 2) = 125) : number f n st 16 6 a = .ok (d * 16 + e, 125) (a + 3) := by
  unfold number
  rw [numR_step, octet_at f n (by omega) hd, bind_ok, if_pos (by rw [dU_dg d h0 h1]; omega)]
  simp only []
  rw [numR_step, octet_at f n (by omega) he, bind_ok, if_pos (by rw [dU_dg e h2 h3]; omega)]
  simp only []
  rw [numR_step, octet_at f n (a := a + 1 + 1) (by omega) hf, bind_ok, if_neg (by decide), if_neg (by decide), dU_dg d h0 h1, dU_dg e h2 h3]
  simp
theorem hex_here {st a : Nat} {r : Int} (h0 : 0 ≤ r) (h1 : r ≤ 127) (h : Here f n a (123 :: (hexU r ++ [125]))) : hex f n st a = .ok (char r) (a + (hexU r).length + 2) := by
  have hl := h.1
  simp only [List.length_cons, List.length_append, List.length_nil] at hl
  unfold hex
  rw [want_at f n (a := a) (c := 123) (by omega) (by have := h.2 0 (by simp); simpa using this), bind_ok]
  unfold hexU at *
  by_cases hr : r < 16
  · rw [if_pos hr] at *
    simp only [List.length_cons, List.length_nil] at hl
    have e1 : f (a + 1) = dU r := by have := h.2 1 (by simp); simpa using this
    have e2 : f (a + 2) = 125 := by have := h.2 2 (by simp); simpa using this
    rw [number_one f n (a := a + 1) h0 hr (by omega) e1 e2, bind_ok, if_pos ⟨len_low r h0 h1, rfl⟩]
    rfl
  · rw [if_neg hr] at *
    simp only [List.length_cons, List.length_nil] at hl
    have e1 : f (a + 1) = dU (r / 16) := by have := h.2 1 (by simp); simpa using this
    have e2 : f (a + 2) = dU (r % 16) := by have := h.2 2 (by simp); simpa using this
    have e3 : f (a + 3) = 125 := by have := h.2 3 (by simp); simpa using this
    rw [number_two f n (a := a + 1) (d := r / 16) (e := r % 16) (by omega) (by omega) (by omega) (by omega) (by omega) e1 e2 e3, bind_ok]
    have e4 : r / 16 * 16 + r % 16 = r := by omega
    rw [e4, if_pos ⟨len_low r h0 h1, rfl⟩]
    rfl
/-- What is said for a code point is its token. -/
theorem token_print {a k : Nat} {r : Int} (hr : len r ≠ 0) (h : Here f n a (printL r (decide (0 < k)))) : token f n a k = .ok (char r, k) (a + (printL r (decide (0 < k))).length) := by
  obtain ⟨r0, r1, r2, -⟩ := utf.len_cases r hr
  unfold printL at *
  rw [if_neg hr] at *
  by_cases hc : r < 32 ∨ r = 127
  · rw [if_pos hc] at *
    have hl := h.1
    simp only [List.length_cons, List.length_append, List.length_nil] at hl
    have e0 : f a = 92 := by have := h.2 0 (by simp); simpa using this
    have e1 : f (a + 1) = 120 := by have := h.2 1 (by simp); simpa using this
    have h2 : Here f n (a + 2) (123 :: (hexU r ++ [125])) := by
      have : [92, 120, 123] ++ hexU r ++ [125] = [92, 120] ++ (123 :: (hexU r ++ [125])) := by simp
      rw [this] at h
      exact h.right
    unfold token
    rw [point_low (r := 92) (by decide) (by decide) (by omega) e0, bind_ok, if_pos rfl]
    unfold escape
    rw [point_low (r := 120) (by decide) (by decide) (by omega) e1, bind_ok]
    simp only [show ¬ (120 : Int) = 100 by decide, show ¬ (120 : Int) = 119 by decide, show ¬ (120 : Int) = 115 by decide, show ¬ (120 : Int) = 68 by decide, show ¬ (120 : Int) = 87 by decide, show ¬ (120 : Int) = 83 by decide, show ¬ (120 : Int) = 112 by decide, show ¬ (120 : Int) = 80 by decide, show ¬ (120 : Int) = 110 by decide, show ¬ (120 : Int) = 116 by decide, show ¬ (120 : Int) = 114 by decide, if_false, if_true]
    rw [hex_here f n r0 (by omega) h2]
    show Out.ok (char r, k) _ = _
    congr 1
    simp only [List.length_cons, List.length_append, List.length_nil]
    omega
  · rw [if_neg hc] at *
    by_cases hm : r ∈ (if decide (0 < k) = true then marksC else marksO)
    · rw [if_pos hm] at *
      obtain ⟨m0, m1, m2, m3, m4⟩ := marks_low r _ hm
      rw [enc_low r r0 (by omega)] at *
      have hl := h.1
      simp only [List.length_cons, List.length_nil] at hl
      have e0 : f a = 92 := by have := h.2 0 (by simp); simpa using this
      have e1 : f (a + 1) = r := by have := h.2 1 (by simp); simpa using this
      unfold token
      rw [point_low (r := 92) (by decide) (by decide) (by omega) e0, bind_ok, if_pos rfl]
      unfold escape
      rw [point_low (r := r) r0 (by omega) (by omega) e1, bind_ok]
      have q : ∀ c : Int, (c = 100 ∨ c = 119 ∨ c = 115 ∨ c = 68 ∨ c = 87 ∨ c = 83 ∨ c = 112 ∨ c = 80 ∨ c = 110 ∨ c = 116 ∨ c = 114 ∨ c = 120) → ¬ r = c := fun c hc e => m4 (e ▸ hc)
      rw [if_neg (q 100 (by simp)), if_neg (q 119 (by simp)), if_neg (q 115 (by simp)), if_neg (q 68 (by simp)), if_neg (q 87 (by simp)), if_neg (q 83 (by simp)), if_neg (q 112 (by simp)), if_neg (q 80 (by simp)), if_neg (q 110 (by simp)), if_neg (q 116 (by simp)), if_neg (q 114 (by simp)), if_neg (q 120 (by simp)), if_pos ⟨m2, m3⟩]
      rfl
    · rw [if_neg hm] at *
      unfold token
      rw [point_here hr h, bind_ok]
      by_cases hk : 0 < k
      · simp only [hk, decide_true, if_true, marksC, List.mem_cons, List.not_mem_nil, or_false, not_or] at hm
        obtain ⟨q1, q2, q3, q4, q5, q6, q7⟩ := hm
        rw [if_neg q7, if_pos hk]
        unfold within
        rw [if_neg q1, if_neg q2, if_neg (fun h => q5 h.1), if_neg (fun h => q4 h.1), if_neg (fun h => q6 h.1), if_neg q4]
      · simp only [hk, decide_false, Bool.false_eq_true, if_false, marksO, List.mem_cons, List.not_mem_nil, or_false, not_or] at hm
        obtain ⟨q1, q2, q3, q4, q5, q6, q7, q8, q9, q10, q11, q12⟩ := hm
        rw [if_neg q12, if_neg hk]
        unfold outside mark
        rw [if_neg q2, if_neg q1, if_neg q5, if_neg q3, if_neg q4, if_neg q6, if_neg q7, if_neg q8, if_neg q9, if_neg q10, if_neg q11]
        rfl
theorem print_pos (r : Int) (cls : Bool) (hr : len r ≠ 0) : 0 < (printL r cls).length ∧ (printL r cls).length ≤ 6 := by
  have hp := enc_pos r hr
  unfold printL hexU
  rw [if_neg hr]
  by_cases hc : r < 32 ∨ r = 127
  · rw [if_pos hc]; split <;> simp
  · rw [if_neg hc]
    by_cases hm : r ∈ (if cls = true then marksC else marksO)
    · rw [if_pos hm, List.length_cons]; omega
    · rw [if_neg hm]; omega
theorem print_none (r : Int) (cls : Bool) (hr : len r = 0) : printL r cls = [] := by unfold printL; rw [if_pos hr]
theorem print_range (r : Int) (cls : Bool) : ∀ i, 0 ≤ (printL r cls).getD i 0 ∧ (printL r cls).getD i 0 ≤ 255 := by
  intro i
  unfold printL
  split
  · simp
  · rename_i hr
    obtain ⟨r0, r1, -⟩ := utf.len_cases r hr
    split
    · rename_i hc
      have hd : ∀ d : Int, 0 ≤ d → d < 16 → 0 ≤ dU d ∧ dU d ≤ 255 := fun d h0 h1 => by unfold dU; split <;> omega
      have a1 := hd (r / 16) (by omega) (by omega)
      have a2 := hd (r % 16) (by omega) (by omega)
      have key : ∀ x ∈ [92, 120, 123] ++ hexU r ++ [125], 0 ≤ x ∧ x ≤ (255 : Int) := by
        intro x hx
        unfold hexU at hx
        split at hx
        · have a3 := hd r r0 (by omega)
          simp at hx
          rcases hx with rfl | rfl | rfl | rfl | rfl <;> first | decide | exact a3
        · simp at hx
          rcases hx with rfl | rfl | rfl | rfl | rfl | rfl <;> first | decide | exact a1 | exact a2
      rw [List.getD_eq_getElem?_getD]
      cases hg : ([92, 120, 123] ++ hexU r ++ [125])[i]? with
      | none => simp
      | some x => exact key x (List.mem_of_getElem? hg)
    · by_cases hm : r ∈ (if cls = true then marksC else marksO)
      · rw [if_pos hm]
        cases i with
        | zero => simp
        | succ i => simpa using utf.enc_range r i
      · rw [if_neg hm]; exact utf.enc_range r i
end
end Go.Proofs.YtlgkfnecahgedaaGreatDoor.tok
end
