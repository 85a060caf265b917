/- Texts that the proof leans on, one behind the other. -/
import Derived.Test.YtlgkfnecahgedaaGreatDoorBdTok22

section
/- The document's next: marks, escapes, code points. -/
set_option linter.unusedVariables false
set_option linter.unusedSimpArgs false
namespace Go.Proofs.YtlgkfnecahgedaaGreatDoor.tok
open Go.RowKit
open lin (BA Turns)

set_option maxHeartbeats 4000000 in
set_option maxRecDepth 100000 in
theorem nx_mark (rb : Nat) (ao : Option Addr) (n cap : Nat) (f : Nat → Int) (a k : Nat) (c p : Int) (w : World) (h : Rs w rb ao n cap f a k c p) (hl : a < n) (hk2 : k < 1000000) (hk : k = 0) (o : Out Tk) (kc : classR f n a k = none) (ho : ∀ W, RT W rb (w.heap.size + 1) ao n cap f a k c p ⟨0, 0, 0, 0, [], false, a, 0⟩ → Calls Tryz.prog 26 #[.pointer (some ⟨rb, 0, none⟩), .pointer (some ⟨w.heap.size + 1, 0, none⟩)] W (ROt W rb (w.heap.size + 1) ao n cap f k c p a o)) :
    Calls Tryz.prog 17 #[.pointer (some ⟨rb, 0, none⟩)] w (RNx w rb ao n cap f a c p (o.with_ k)) := by
  have KC : Hid (classR f n a k = none) := kc
  clear kc
  have HO : Hid (∀ W, RT W rb (w.heap.size + 1) ao n cap f a k c p ⟨0, 0, 0, 0, [], false, a, 0⟩ → Calls Tryz.prog 26 #[.pointer (some ⟨rb, 0, none⟩), .pointer (some ⟨w.heap.size + 1, 0, none⟩)] W (ROt W rb (w.heap.size + 1) ao n cap f k c p a o)) := ho
  clear ho
  have hk3 : (k : Int) = 0 := by omega
  have hk4 : ((k : Int) == 0) = true := by simp; omega
  clear hk
  have hrl := h.lt
  have hn := h.nn
  have ha := h.aa
  have hcc := h.cc
  have hcm := h.cm
  have HBL : Hid (∀ b off, ao = some ⟨b, off, none⟩ → b < w.heap.size) := fun b off e => h.bytes_lt e
  obtain ⟨W, hW⟩ : ∃ W, (w.alloc (.cells #[.int .i64 0, .int .i64 0, .int .i64 0, .int .i64 0, .string ⟨#[]⟩, .bool false, .int .i64 0, .int .i64 0] 32)).alloc (.cells #[.int .i64 0, .int .i64 0, .int .i64 0, .int .i64 0, .string ⟨#[]⟩, .bool false, .int .i64 (a : Int), .int .i64 0] 32) = W := ⟨_, rfl⟩
  have HBW : Hid (Below w.heap.size w W) := by rw [Hid, ← hW]; exact ((Below.refl _ _).alloc (Nat.le_refl _) _).alloc (by simp) _
  have hsW : W.heap.size = w.heap.size + 2 := by rw [← hW]; simp
  have HGR : Hid (W.heap[w.heap.size]? = some (.cells #[.int .i64 0, .int .i64 0, .int .i64 0, .int .i64 0, .string ⟨#[]⟩, .bool false, .int .i64 0, .int .i64 0] 32 (0, 0))) := by rw [Hid, ← hW]; exact (Below.heap_alloc _ _ _ (by simp)).trans (World.alloc_heap_new _ _)
  have hT : W.heap[w.heap.size + 1]? = some (.cells #[.int .i64 0, .int .i64 0, .int .i64 0, .int .i64 0, .string ⟨#[]⟩, .bool false, .int .i64 (a : Int), .int .i64 0] 32 (0, 0)) := by
    rw [← hW]
    have := World.alloc_heap_new (w.alloc (.cells #[.int .i64 0, .int .i64 0, .int .i64 0, .int .i64 0, .string ⟨#[]⟩, .bool false, .int .i64 0, .int .i64 0] 32)) (.cells #[.int .i64 0, .int .i64 0, .int .i64 0, .int .i64 0, .string ⟨#[]⟩, .bool false, .int .i64 (a : Int), .int .i64 0] 32)
    simpa using this
  have S0 : RT W rb (w.heap.size + 1) ao n cap f a k c p ⟨0, 0, 0, 0, [], false, a, 0⟩ := ⟨h.turns (D := fun _ => False) (.of_below HBW.out) id (fun _ _ _ => id), hT, by omega, fun b off e => by have := HBL.out b off e; omega⟩
  have U0 : T2 rb (w.heap.size + 1) W W := lin.Turns.refl _ W
  have hne : ¬ w.heap.size + 1 = rb := by omega
  have hne' : ¬ rb = w.heap.size + 1 := by omega
  have hne2 : ¬ w.heap.size = rb := by omega
  have hne3 : ¬ rb = w.heap.size := by omega
  have c1w := h.cells.2.1
  have HWE : Hid ((w.alloc (.cells #[.int .i64 0, .int .i64 0, .int .i64 0, .int .i64 0, .string ⟨#[]⟩, .bool false, .int .i64 0, .int .i64 0] 32)).alloc (.cells #[.int .i64 0, .int .i64 0, .int .i64 0, .int .i64 0, .string ⟨#[]⟩, .bool false, .int .i64 (a : Int), .int .i64 0] 32) = W) := hW
  clear hT h hW
  obtain ⟨⟨c0, c1, c2, z1, z2⟩, ⟨k0, k1, k2, k3, k4, k5, k6, k7⟩, ⟨f0, f1, f2, f3, f4, f5, f6, f7⟩⟩ := S0.cells
  go_enter Tryz.func17, Tryz.ntmps17
  have C := rclass rb (w.heap.size + 1) ao n cap f a k c p a W S0 hl hk2
  rw [KC.out, ← HWE.out] at C
  clear KC
  go_wp2_with fail
  refine C.mono ?_
  rintro e w1 ⟨rfl, S1, U1⟩
  rw [HWE.out] at U1
  clear C S0 U0
  clear c0 c1 c2 z1 z2 k0 k1 k2 k3 k4 k5 k6 k7 f0 f1 f2 f3 f4 f5 f6 f7
  obtain ⟨⟨c0, c1, c2, z1, z2⟩, ⟨k0, k1, k2, k3, k4, k5, k6, k7⟩, ⟨f0, f1, f2, f3, f4, f5, f6, f7⟩⟩ := S1.cells
  have C := HO.out _ S1
  go_wp2_with fail
  refine C.mono ?_
  clear C
  cases o with
  | ok t1_ a1 =>
    rintro e w2 ⟨rfl, S2, V2⟩
    have U2 := lin.Turns.trans U1 V2
    clear S1 U1 V2
    clear c0 c1 c2 z1 z2 k0 k1 k2 k3 k4 k5 k6 k7 f0 f1 f2 f3 f4 f5 f6 f7
    obtain ⟨⟨c0, c1, c2, z1, z2⟩, ⟨k0, k1, k2, k3, k4, k5, k6, k7⟩, ⟨f0, f1, f2, f3, f4, f5, f6, f7⟩⟩ := S2.cells
    obtain ⟨t1, t2, t3, t4, t5, t6, t7, t8⟩ := t1_
    simp only [] at S2 k0 k1 k2 k3 k4 k5 k6 k7
    have GR := (U2.block w.heap.size (by omega) (by omega)).trans HGR.out
    obtain ⟨⟨g0, g1, g2, g3, g4, g5, g6, g7⟩, ⟨y0, y1, y2, y3, y4, y5, y6, y7⟩⟩ := blk8 GR
    have S9 := S2.t7 a1
    have U9 := T2.put U2 7 (.int .i64 ((a1 : Nat) : Int))
    have GS : (w2.setCell ⟨w.heap.size + 1, 7, none⟩ (.int .i64 ((a1 : Nat) : Int))).heap[w.heap.size]? = some (.cells #[.int .i64 0, .int .i64 0, .int .i64 0, .int .i64 0, .string ⟨#[]⟩, .bool false, .int .i64 0, .int .i64 0] 32 (0, 0)) := (heap_setCell_other _ _ _ _ (by show w.heap.size ≠ w.heap.size + 1; omega)).trans GR
    have GF := set8g GS (.int .i64 t1) (.int .i64 t2) (.int .i64 t3) (.int .i64 t4) (.string (BA t5)) (.bool t6) (.int .i64 ((a : Nat) : Int)) (.int .i64 ((a1 : Nat) : Int))
    have SF := S9.rs.set8 (g := w.heap.size) (by omega) (fun b off e => by have := HBL.out b off e; omega) (.int .i64 t1) (.int .i64 t2) (.int .i64 t3) (.int .i64 t4) (.string (BA t5)) (.bool t6) (.int .i64 ((a : Nat) : Int)) (.int .i64 ((a1 : Nat) : Int))
    have TF := Tn.set8 (tn_of HBW.out U9 (by omega)) (g := w.heap.size) (Nat.le_refl _) (.int .i64 t1) (.int .i64 t2) (.int .i64 t3) (.int .i64 t4) (.string (BA t5)) (.bool t6) (.int .i64 ((a : Nat) : Int)) (.int .i64 ((a1 : Nat) : Int))
    clear S9 U9 GS GR S2 U2
    go_wp2
    exact bodyPost_ret (results2c Tryz.results17 _ _ (.bool true) w.heap.size _ _ _ _ rfl rfl GF Tryz.underlying32 rfl infoTok) rfl ⟨rfl, SF, TF⟩
  | no cc1 pp1 =>
    rintro e w2 ⟨rfl, ⟨a1, t1_, S2⟩, V2⟩
    have U2 := lin.Turns.trans U1 V2
    clear S1 U1 V2
    clear c0 c1 c2 z1 z2 k0 k1 k2 k3 k4 k5 k6 k7 f0 f1 f2 f3 f4 f5 f6 f7
    obtain ⟨⟨c0, c1, c2, z1, z2⟩, ⟨k0, k1, k2, k3, k4, k5, k6, k7⟩, ⟨f0, f1, f2, f3, f4, f5, f6, f7⟩⟩ := S2.cells
    obtain ⟨t1, t2, t3, t4, t5, t6, t7, t8⟩ := t1_
    simp only [] at S2 k0 k1 k2 k3 k4 k5 k6 k7
    have GR := (U2.block w.heap.size (by omega) (by omega)).trans HGR.out
    obtain ⟨⟨g0, g1, g2, g3, g4, g5, g6, g7⟩, ⟨y0, y1, y2, y3, y4, y5, y6, y7⟩⟩ := blk8 GR
    have S9 := S2.t7 a1
    have U9 := T2.put U2 7 (.int .i64 ((a1 : Nat) : Int))
    have GS : (w2.setCell ⟨w.heap.size + 1, 7, none⟩ (.int .i64 ((a1 : Nat) : Int))).heap[w.heap.size]? = some (.cells #[.int .i64 0, .int .i64 0, .int .i64 0, .int .i64 0, .string ⟨#[]⟩, .bool false, .int .i64 0, .int .i64 0] 32 (0, 0)) := (heap_setCell_other _ _ _ _ (by show w.heap.size ≠ w.heap.size + 1; omega)).trans GR
    have GF := set8g GS (.int .i64 t1) (.int .i64 t2) (.int .i64 t3) (.int .i64 t4) (.string (BA t5)) (.bool t6) (.int .i64 ((t7 : Nat) : Int)) (.int .i64 ((a1 : Nat) : Int))
    have SF := S9.rs.set8 (g := w.heap.size) (by omega) (fun b off e => by have := HBL.out b off e; omega) (.int .i64 t1) (.int .i64 t2) (.int .i64 t3) (.int .i64 t4) (.string (BA t5)) (.bool t6) (.int .i64 ((t7 : Nat) : Int)) (.int .i64 ((a1 : Nat) : Int))
    have TF := Tn.set8 (tn_of HBW.out U9 (by omega)) (g := w.heap.size) (Nat.le_refl _) (.int .i64 t1) (.int .i64 t2) (.int .i64 t3) (.int .i64 t4) (.string (BA t5)) (.bool t6) (.int .i64 ((t7 : Nat) : Int)) (.int .i64 ((a1 : Nat) : Int))
    clear S9 U9 GS GR S2 U2
    go_wp2
    exact bodyPost_ret (results2c Tryz.results17 _ _ (.bool false) w.heap.size _ _ _ _ rfl rfl GF Tryz.underlying32 rfl infoTok) rfl ⟨⟨⟨t1, t2, t3, t4, t5, t6, t7, a1⟩, rfl⟩, ⟨_, _, SF⟩, TF⟩
end Go.Proofs.YtlgkfnecahgedaaGreatDoor.tok
end

section
/- The document's next: escapes. -/
set_option linter.unusedVariables false
set_option linter.unusedSimpArgs false
namespace Go.Proofs.YtlgkfnecahgedaaGreatDoor.tok
open Go.RowKit
open lin (BA Turns)

set_option maxHeartbeats 4000000 in
set_option maxRecDepth 100000 in
theorem nx_esc0 (rb : Nat) (ao : Option Addr) (n cap : Nat) (f : Nat → Int) (a k : Nat) (c p : Int) (w : World) (h : Rs w rb ao n cap f a k c p) (hl : a < n) (hk2 : k < 1000000) (hk : k = 0) (kc : classR f n a k = none) (ho : ∀ W, RT W rb (w.heap.size + 1) ao n cap f a k c p ⟨0, 0, 0, 0, [], false, a, 0⟩ → Calls Tryz.prog 26 #[.pointer (some ⟨rb, 0, none⟩), .pointer (some ⟨w.heap.size + 1, 0, none⟩)] W (fun e w' => e = .returned (.tuple #[.bool false, .bool true]) ∧ RT w' rb (w.heap.size + 1) ao n cap f a k c p ⟨0, 0, 0, 0, [], false, a, 0⟩ ∧ T2 rb (w.heap.size + 1) W w')) (kb : hasB f n a [92] = true) (hst : noneC f a = 132) (o : Out Tk) (ke : escape f n a (a + 1) k = o) :
    Calls Tryz.prog 17 #[.pointer (some ⟨rb, 0, none⟩)] w (RNx w rb ao n cap f a c p (o.with_ k)) := by
  have KC : Hid (classR f n a k = none) := kc
  clear kc
  have KB : Hid (hasB f n a [92] = true) := kb
  clear kb
  have KE : Hid (escape f n a (a + 1) k = o) := ke
  clear ke
  have HO : Hid (∀ W, RT W rb (w.heap.size + 1) ao n cap f a k c p ⟨0, 0, 0, 0, [], false, a, 0⟩ → Calls Tryz.prog 26 #[.pointer (some ⟨rb, 0, none⟩), .pointer (some ⟨w.heap.size + 1, 0, none⟩)] W (fun e w' => e = .returned (.tuple #[.bool false, .bool true]) ∧ RT w' rb (w.heap.size + 1) ao n cap f a k c p ⟨0, 0, 0, 0, [], false, a, 0⟩ ∧ T2 rb (w.heap.size + 1) W w')) := ho
  clear ho
  have hk3 : (k : Int) = 0 := by omega
  have hk4 : ((k : Int) == 0) = true := by simp; omega
  clear hk
  have hrl := h.lt
  have hn := h.nn
  have ha := h.aa
  have hcc := h.cc
  have hcm := h.cm
  have HBL : Hid (∀ b off, ao = some ⟨b, off, none⟩ → b < w.heap.size) := fun b off e => h.bytes_lt e
  obtain ⟨W, hW⟩ : ∃ W, (w.alloc (.cells #[.int .i64 0, .int .i64 0, .int .i64 0, .int .i64 0, .string ⟨#[]⟩, .bool false, .int .i64 0, .int .i64 0] 32)).alloc (.cells #[.int .i64 0, .int .i64 0, .int .i64 0, .int .i64 0, .string ⟨#[]⟩, .bool false, .int .i64 (a : Int), .int .i64 0] 32) = W := ⟨_, rfl⟩
  have HBW : Hid (Below w.heap.size w W) := by rw [Hid, ← hW]; exact ((Below.refl _ _).alloc (Nat.le_refl _) _).alloc (by simp) _
  have hsW : W.heap.size = w.heap.size + 2 := by rw [← hW]; simp
  have HGR : Hid (W.heap[w.heap.size]? = some (.cells #[.int .i64 0, .int .i64 0, .int .i64 0, .int .i64 0, .string ⟨#[]⟩, .bool false, .int .i64 0, .int .i64 0] 32 (0, 0))) := by rw [Hid, ← hW]; exact (Below.heap_alloc _ _ _ (by simp)).trans (World.alloc_heap_new _ _)
  have hT : W.heap[w.heap.size + 1]? = some (.cells #[.int .i64 0, .int .i64 0, .int .i64 0, .int .i64 0, .string ⟨#[]⟩, .bool false, .int .i64 (a : Int), .int .i64 0] 32 (0, 0)) := by
    rw [← hW]
    have := World.alloc_heap_new (w.alloc (.cells #[.int .i64 0, .int .i64 0, .int .i64 0, .int .i64 0, .string ⟨#[]⟩, .bool false, .int .i64 0, .int .i64 0] 32)) (.cells #[.int .i64 0, .int .i64 0, .int .i64 0, .int .i64 0, .string ⟨#[]⟩, .bool false, .int .i64 (a : Int), .int .i64 0] 32)
    simpa using this
  have S0 : RT W rb (w.heap.size + 1) ao n cap f a k c p ⟨0, 0, 0, 0, [], false, a, 0⟩ := ⟨h.turns (D := fun _ => False) (.of_below HBW.out) id (fun _ _ _ => id), hT, by omega, fun b off e => by have := HBL.out b off e; omega⟩
  have U0 : T2 rb (w.heap.size + 1) W W := lin.Turns.refl _ W
  have hne : ¬ w.heap.size + 1 = rb := by omega
  have hne' : ¬ rb = w.heap.size + 1 := by omega
  have hne2 : ¬ w.heap.size = rb := by omega
  have hne3 : ¬ rb = w.heap.size := by omega
  have c1w := h.cells.2.1
  have HWE : Hid ((w.alloc (.cells #[.int .i64 0, .int .i64 0, .int .i64 0, .int .i64 0, .string ⟨#[]⟩, .bool false, .int .i64 0, .int .i64 0] 32)).alloc (.cells #[.int .i64 0, .int .i64 0, .int .i64 0, .int .i64 0, .string ⟨#[]⟩, .bool false, .int .i64 (a : Int), .int .i64 0] 32) = W) := hW
  clear hT h hW
  obtain ⟨⟨c0, c1, c2, z1, z2⟩, ⟨k0, k1, k2, k3, k4, k5, k6, k7⟩, ⟨f0, f1, f2, f3, f4, f5, f6, f7⟩⟩ := S0.cells
  go_enter Tryz.func17, Tryz.ntmps17
  have C := rclass rb (w.heap.size + 1) ao n cap f a k c p a W S0 hl hk2
  rw [KC.out, ← HWE.out] at C
  clear KC
  go_wp2_with fail
  refine C.mono ?_
  rintro e w1 ⟨rfl, S1, U1⟩
  rw [HWE.out] at U1
  clear C S0 U0
  clear c0 c1 c2 z1 z2 k0 k1 k2 k3 k4 k5 k6 k7 f0 f1 f2 f3 f4 f5 f6 f7
  obtain ⟨⟨c0, c1, c2, z1, z2⟩, ⟨k0, k1, k2, k3, k4, k5, k6, k7⟩, ⟨f0, f1, f2, f3, f4, f5, f6, f7⟩⟩ := S1.cells
  have C := HO.out _ S1
  go_wp2_with fail
  refine C.mono ?_
  rintro e w2 ⟨rfl, S2, V2⟩
  have U2 := lin.Turns.trans U1 V2
  clear C S1 U1 V2
  clear c0 c1 c2 z1 z2 k0 k1 k2 k3 k4 k5 k6 k7 f0 f1 f2 f3 f4 f5 f6 f7
  obtain ⟨⟨c0, c1, c2, z1, z2⟩, ⟨k0, k1, k2, k3, k4, k5, k6, k7⟩, ⟨f0, f1, f2, f3, f4, f5, f6, f7⟩⟩ := S2.cells
  have C := has_t S2 U2 [92] (by decide) (by decide)
  rw [KB.out] at C
  go_wp2_with fail
  refine C.mono ?_
  rintro e w3 ⟨rfl, S3, U3⟩
  clear C S2 U2
  clear c0 c1 c2 z1 z2 k0 k1 k2 k3 k4 k5 k6 k7 f0 f1 f2 f3 f4 f5 f6 f7
  obtain ⟨⟨c0, c1, c2, z1, z2⟩, ⟨k0, k1, k2, k3, k4, k5, k6, k7⟩, ⟨f0, f1, f2, f3, f4, f5, f6, f7⟩⟩ := S3.cells
  have CE := rescape rb (w.heap.size + 1) ao n cap f a k c p a w3 S3 hst hl
  rw [KE.out] at CE
  clear KE
  have C := CE
  go_wp2_with fail
  refine C.mono ?_
  clear C
  cases o with
  | ok t1_ a1 =>
    rintro e w4 ⟨rfl, S4, V4⟩
    have U4 := lin.Turns.trans U3 V4
    clear S3 U3 V4
    clear c0 c1 c2 z1 z2 k0 k1 k2 k3 k4 k5 k6 k7 f0 f1 f2 f3 f4 f5 f6 f7
    obtain ⟨⟨c0, c1, c2, z1, z2⟩, ⟨k0, k1, k2, k3, k4, k5, k6, k7⟩, ⟨f0, f1, f2, f3, f4, f5, f6, f7⟩⟩ := S4.cells
    obtain ⟨t1, t2, t3, t4, t5, t6, t7, t8⟩ := t1_
    simp only [] at S4 k0 k1 k2 k3 k4 k5 k6 k7
    have GR := (U4.block w.heap.size (by omega) (by omega)).trans HGR.out
    obtain ⟨⟨g0, g1, g2, g3, g4, g5, g6, g7⟩, ⟨y0, y1, y2, y3, y4, y5, y6, y7⟩⟩ := blk8 GR
    have S9 := S4.t7 a1
    have U9 := T2.put U4 7 (.int .i64 ((a1 : Nat) : Int))
    have GS : (w4.setCell ⟨w.heap.size + 1, 7, none⟩ (.int .i64 ((a1 : Nat) : Int))).heap[w.heap.size]? = some (.cells #[.int .i64 0, .int .i64 0, .int .i64 0, .int .i64 0, .string ⟨#[]⟩, .bool false, .int .i64 0, .int .i64 0] 32 (0, 0)) := (heap_setCell_other _ _ _ _ (by show w.heap.size ≠ w.heap.size + 1; omega)).trans GR
    have GF := set8g GS (.int .i64 t1) (.int .i64 t2) (.int .i64 t3) (.int .i64 t4) (.string (BA t5)) (.bool t6) (.int .i64 ((a : Nat) : Int)) (.int .i64 ((a1 : Nat) : Int))
    have SF := S9.rs.set8 (g := w.heap.size) (by omega) (fun b off e => by have := HBL.out b off e; omega) (.int .i64 t1) (.int .i64 t2) (.int .i64 t3) (.int .i64 t4) (.string (BA t5)) (.bool t6) (.int .i64 ((a : Nat) : Int)) (.int .i64 ((a1 : Nat) : Int))
    have TF := Tn.set8 (tn_of HBW.out U9 (by omega)) (g := w.heap.size) (Nat.le_refl _) (.int .i64 t1) (.int .i64 t2) (.int .i64 t3) (.int .i64 t4) (.string (BA t5)) (.bool t6) (.int .i64 ((a : Nat) : Int)) (.int .i64 ((a1 : Nat) : Int))
    clear S9 U9 GS GR S4 U4
    go_wp2
    exact bodyPost_ret (results2c Tryz.results17 _ _ (.bool true) w.heap.size _ _ _ _ rfl rfl GF Tryz.underlying32 rfl infoTok) rfl ⟨rfl, SF, TF⟩
  | no cc1 pp1 =>
    rintro e w4 ⟨rfl, ⟨a1, t1_, S4⟩, V4⟩
    have U4 := lin.Turns.trans U3 V4
    clear S3 U3 V4
    clear c0 c1 c2 z1 z2 k0 k1 k2 k3 k4 k5 k6 k7 f0 f1 f2 f3 f4 f5 f6 f7
    obtain ⟨⟨c0, c1, c2, z1, z2⟩, ⟨k0, k1, k2, k3, k4, k5, k6, k7⟩, ⟨f0, f1, f2, f3, f4, f5, f6, f7⟩⟩ := S4.cells
    obtain ⟨t1, t2, t3, t4, t5, t6, t7, t8⟩ := t1_
    simp only [] at S4 k0 k1 k2 k3 k4 k5 k6 k7
    have GR := (U4.block w.heap.size (by omega) (by omega)).trans HGR.out
    obtain ⟨⟨g0, g1, g2, g3, g4, g5, g6, g7⟩, ⟨y0, y1, y2, y3, y4, y5, y6, y7⟩⟩ := blk8 GR
    have S9 := S4.t7 a1
    have U9 := T2.put U4 7 (.int .i64 ((a1 : Nat) : Int))
    have GS : (w4.setCell ⟨w.heap.size + 1, 7, none⟩ (.int .i64 ((a1 : Nat) : Int))).heap[w.heap.size]? = some (.cells #[.int .i64 0, .int .i64 0, .int .i64 0, .int .i64 0, .string ⟨#[]⟩, .bool false, .int .i64 0, .int .i64 0] 32 (0, 0)) := (heap_setCell_other _ _ _ _ (by show w.heap.size ≠ w.heap.size + 1; omega)).trans GR
    have GF := set8g GS (.int .i64 t1) (.int .i64 t2) (.int .i64 t3) (.int .i64 t4) (.string (BA t5)) (.bool t6) (.int .i64 ((t7 : Nat) : Int)) (.int .i64 ((a1 : Nat) : Int))
    have SF := S9.rs.set8 (g := w.heap.size) (by omega) (fun b off e => by have := HBL.out b off e; omega) (.int .i64 t1) (.int .i64 t2) (.int .i64 t3) (.int .i64 t4) (.string (BA t5)) (.bool t6) (.int .i64 ((t7 : Nat) : Int)) (.int .i64 ((a1 : Nat) : Int))
    have TF := Tn.set8 (tn_of HBW.out U9 (by omega)) (g := w.heap.size) (Nat.le_refl _) (.int .i64 t1) (.int .i64 t2) (.int .i64 t3) (.int .i64 t4) (.string (BA t5)) (.bool t6) (.int .i64 ((t7 : Nat) : Int)) (.int .i64 ((a1 : Nat) : Int))
    clear S9 U9 GS GR S4 U4
    go_wp2
    exact bodyPost_ret (results2c Tryz.results17 _ _ (.bool false) w.heap.size _ _ _ _ rfl rfl GF Tryz.underlying32 rfl infoTok) rfl ⟨⟨⟨t1, t2, t3, t4, t5, t6, t7, a1⟩, rfl⟩, ⟨_, _, SF⟩, TF⟩
set_option maxHeartbeats 4000000 in
set_option maxRecDepth 100000 in
theorem nx_esck (rb : Nat) (ao : Option Addr) (n cap : Nat) (f : Nat → Int) (a k : Nat) (c p : Int) (w : World) (h : Rs w rb ao n cap f a k c p) (hl : a < n) (hk2 : k < 1000000) (hk : ¬ k = 0) (kc : classR f n a k = none) (kb : hasB f n a [92] = true) (hst : noneC f a = 132) (o : Out Tk) (ke : escape f n a (a + 1) k = o) :
    Calls Tryz.prog 17 #[.pointer (some ⟨rb, 0, none⟩)] w (RNx w rb ao n cap f a c p (o.with_ k)) := by
  have KC : Hid (classR f n a k = none) := kc
  clear kc
  have KB : Hid (hasB f n a [92] = true) := kb
  clear kb
  have KE : Hid (escape f n a (a + 1) k = o) := ke
  clear ke
  have hk3 : ¬ (k : Int) = 0 := by omega
  have hk4 : ((k : Int) == 0) = false := by simp; omega
  clear hk
  have hrl := h.lt
  have hn := h.nn
  have ha := h.aa
  have hcc := h.cc
  have hcm := h.cm
  have HBL : Hid (∀ b off, ao = some ⟨b, off, none⟩ → b < w.heap.size) := fun b off e => h.bytes_lt e
  obtain ⟨W, hW⟩ : ∃ W, (w.alloc (.cells #[.int .i64 0, .int .i64 0, .int .i64 0, .int .i64 0, .string ⟨#[]⟩, .bool false, .int .i64 0, .int .i64 0] 32)).alloc (.cells #[.int .i64 0, .int .i64 0, .int .i64 0, .int .i64 0, .string ⟨#[]⟩, .bool false, .int .i64 (a : Int), .int .i64 0] 32) = W := ⟨_, rfl⟩
  have HBW : Hid (Below w.heap.size w W) := by rw [Hid, ← hW]; exact ((Below.refl _ _).alloc (Nat.le_refl _) _).alloc (by simp) _
  have hsW : W.heap.size = w.heap.size + 2 := by rw [← hW]; simp
  have HGR : Hid (W.heap[w.heap.size]? = some (.cells #[.int .i64 0, .int .i64 0, .int .i64 0, .int .i64 0, .string ⟨#[]⟩, .bool false, .int .i64 0, .int .i64 0] 32 (0, 0))) := by rw [Hid, ← hW]; exact (Below.heap_alloc _ _ _ (by simp)).trans (World.alloc_heap_new _ _)
  have hT : W.heap[w.heap.size + 1]? = some (.cells #[.int .i64 0, .int .i64 0, .int .i64 0, .int .i64 0, .string ⟨#[]⟩, .bool false, .int .i64 (a : Int), .int .i64 0] 32 (0, 0)) := by
    rw [← hW]
    have := World.alloc_heap_new (w.alloc (.cells #[.int .i64 0, .int .i64 0, .int .i64 0, .int .i64 0, .string ⟨#[]⟩, .bool false, .int .i64 0, .int .i64 0] 32)) (.cells #[.int .i64 0, .int .i64 0, .int .i64 0, .int .i64 0, .string ⟨#[]⟩, .bool false, .int .i64 (a : Int), .int .i64 0] 32)
    simpa using this
  have S0 : RT W rb (w.heap.size + 1) ao n cap f a k c p ⟨0, 0, 0, 0, [], false, a, 0⟩ := ⟨h.turns (D := fun _ => False) (.of_below HBW.out) id (fun _ _ _ => id), hT, by omega, fun b off e => by have := HBL.out b off e; omega⟩
  have U0 : T2 rb (w.heap.size + 1) W W := lin.Turns.refl _ W
  have hne : ¬ w.heap.size + 1 = rb := by omega
  have hne' : ¬ rb = w.heap.size + 1 := by omega
  have hne2 : ¬ w.heap.size = rb := by omega
  have hne3 : ¬ rb = w.heap.size := by omega
  have c1w := h.cells.2.1
  have HWE : Hid ((w.alloc (.cells #[.int .i64 0, .int .i64 0, .int .i64 0, .int .i64 0, .string ⟨#[]⟩, .bool false, .int .i64 0, .int .i64 0] 32)).alloc (.cells #[.int .i64 0, .int .i64 0, .int .i64 0, .int .i64 0, .string ⟨#[]⟩, .bool false, .int .i64 (a : Int), .int .i64 0] 32) = W) := hW
  clear hT h hW
  obtain ⟨⟨c0, c1, c2, z1, z2⟩, ⟨k0, k1, k2, k3, k4, k5, k6, k7⟩, ⟨f0, f1, f2, f3, f4, f5, f6, f7⟩⟩ := S0.cells
  go_enter Tryz.func17, Tryz.ntmps17
  have C := rclass rb (w.heap.size + 1) ao n cap f a k c p a W S0 hl hk2
  rw [KC.out, ← HWE.out] at C
  clear KC
  go_wp2_with fail
  refine C.mono ?_
  rintro e w1 ⟨rfl, S1, U1⟩
  rw [HWE.out] at U1
  clear C S0 U0
  clear c0 c1 c2 z1 z2 k0 k1 k2 k3 k4 k5 k6 k7 f0 f1 f2 f3 f4 f5 f6 f7
  obtain ⟨⟨c0, c1, c2, z1, z2⟩, ⟨k0, k1, k2, k3, k4, k5, k6, k7⟩, ⟨f0, f1, f2, f3, f4, f5, f6, f7⟩⟩ := S1.cells
  have C := has_t S1 U1 [92] (by decide) (by decide)
  rw [KB.out] at C
  go_wp2_with fail
  refine C.mono ?_
  rintro e w2 ⟨rfl, S2, U2⟩
  clear C S1 U1
  clear c0 c1 c2 z1 z2 k0 k1 k2 k3 k4 k5 k6 k7 f0 f1 f2 f3 f4 f5 f6 f7
  obtain ⟨⟨c0, c1, c2, z1, z2⟩, ⟨k0, k1, k2, k3, k4, k5, k6, k7⟩, ⟨f0, f1, f2, f3, f4, f5, f6, f7⟩⟩ := S2.cells
  have CE := rescape rb (w.heap.size + 1) ao n cap f a k c p a w2 S2 hst hl
  rw [KE.out] at CE
  clear KE
  have C := CE
  go_wp2_with fail
  refine C.mono ?_
  clear C
  cases o with
  | ok t1_ a1 =>
    rintro e w3 ⟨rfl, S3, V3⟩
    have U3 := lin.Turns.trans U2 V3
    clear S2 U2 V3
    clear c0 c1 c2 z1 z2 k0 k1 k2 k3 k4 k5 k6 k7 f0 f1 f2 f3 f4 f5 f6 f7
    obtain ⟨⟨c0, c1, c2, z1, z2⟩, ⟨k0, k1, k2, k3, k4, k5, k6, k7⟩, ⟨f0, f1, f2, f3, f4, f5, f6, f7⟩⟩ := S3.cells
    obtain ⟨t1, t2, t3, t4, t5, t6, t7, t8⟩ := t1_
    simp only [] at S3 k0 k1 k2 k3 k4 k5 k6 k7
    have GR := (U3.block w.heap.size (by omega) (by omega)).trans HGR.out
    obtain ⟨⟨g0, g1, g2, g3, g4, g5, g6, g7⟩, ⟨y0, y1, y2, y3, y4, y5, y6, y7⟩⟩ := blk8 GR
    have S9 := S3.t7 a1
    have U9 := T2.put U3 7 (.int .i64 ((a1 : Nat) : Int))
    have GS : (w3.setCell ⟨w.heap.size + 1, 7, none⟩ (.int .i64 ((a1 : Nat) : Int))).heap[w.heap.size]? = some (.cells #[.int .i64 0, .int .i64 0, .int .i64 0, .int .i64 0, .string ⟨#[]⟩, .bool false, .int .i64 0, .int .i64 0] 32 (0, 0)) := (heap_setCell_other _ _ _ _ (by show w.heap.size ≠ w.heap.size + 1; omega)).trans GR
    have GF := set8g GS (.int .i64 t1) (.int .i64 t2) (.int .i64 t3) (.int .i64 t4) (.string (BA t5)) (.bool t6) (.int .i64 ((a : Nat) : Int)) (.int .i64 ((a1 : Nat) : Int))
    have SF := S9.rs.set8 (g := w.heap.size) (by omega) (fun b off e => by have := HBL.out b off e; omega) (.int .i64 t1) (.int .i64 t2) (.int .i64 t3) (.int .i64 t4) (.string (BA t5)) (.bool t6) (.int .i64 ((a : Nat) : Int)) (.int .i64 ((a1 : Nat) : Int))
    have TF := Tn.set8 (tn_of HBW.out U9 (by omega)) (g := w.heap.size) (Nat.le_refl _) (.int .i64 t1) (.int .i64 t2) (.int .i64 t3) (.int .i64 t4) (.string (BA t5)) (.bool t6) (.int .i64 ((a : Nat) : Int)) (.int .i64 ((a1 : Nat) : Int))
    clear S9 U9 GS GR S3 U3
    go_wp2
    exact bodyPost_ret (results2c Tryz.results17 _ _ (.bool true) w.heap.size _ _ _ _ rfl rfl GF Tryz.underlying32 rfl infoTok) rfl ⟨rfl, SF, TF⟩
  | no cc1 pp1 =>
    rintro e w3 ⟨rfl, ⟨a1, t1_, S3⟩, V3⟩
    have U3 := lin.Turns.trans U2 V3
    clear S2 U2 V3
    clear c0 c1 c2 z1 z2 k0 k1 k2 k3 k4 k5 k6 k7 f0 f1 f2 f3 f4 f5 f6 f7
    obtain ⟨⟨c0, c1, c2, z1, z2⟩, ⟨k0, k1, k2, k3, k4, k5, k6, k7⟩, ⟨f0, f1, f2, f3, f4, f5, f6, f7⟩⟩ := S3.cells
    obtain ⟨t1, t2, t3, t4, t5, t6, t7, t8⟩ := t1_
    simp only [] at S3 k0 k1 k2 k3 k4 k5 k6 k7
    have GR := (U3.block w.heap.size (by omega) (by omega)).trans HGR.out
    obtain ⟨⟨g0, g1, g2, g3, g4, g5, g6, g7⟩, ⟨y0, y1, y2, y3, y4, y5, y6, y7⟩⟩ := blk8 GR
    have S9 := S3.t7 a1
    have U9 := T2.put U3 7 (.int .i64 ((a1 : Nat) : Int))
    have GS : (w3.setCell ⟨w.heap.size + 1, 7, none⟩ (.int .i64 ((a1 : Nat) : Int))).heap[w.heap.size]? = some (.cells #[.int .i64 0, .int .i64 0, .int .i64 0, .int .i64 0, .string ⟨#[]⟩, .bool false, .int .i64 0, .int .i64 0] 32 (0, 0)) := (heap_setCell_other _ _ _ _ (by show w.heap.size ≠ w.heap.size + 1; omega)).trans GR
    have GF := set8g GS (.int .i64 t1) (.int .i64 t2) (.int .i64 t3) (.int .i64 t4) (.string (BA t5)) (.bool t6) (.int .i64 ((t7 : Nat) : Int)) (.int .i64 ((a1 : Nat) : Int))
    have SF := S9.rs.set8 (g := w.heap.size) (by omega) (fun b off e => by have := HBL.out b off e; omega) (.int .i64 t1) (.int .i64 t2) (.int .i64 t3) (.int .i64 t4) (.string (BA t5)) (.bool t6) (.int .i64 ((t7 : Nat) : Int)) (.int .i64 ((a1 : Nat) : Int))
    have TF := Tn.set8 (tn_of HBW.out U9 (by omega)) (g := w.heap.size) (Nat.le_refl _) (.int .i64 t1) (.int .i64 t2) (.int .i64 t3) (.int .i64 t4) (.string (BA t5)) (.bool t6) (.int .i64 ((t7 : Nat) : Int)) (.int .i64 ((a1 : Nat) : Int))
    clear S9 U9 GS GR S3 U3
    go_wp2
    exact bodyPost_ret (results2c Tryz.results17 _ _ (.bool false) w.heap.size _ _ _ _ rfl rfl GF Tryz.underlying32 rfl infoTok) rfl ⟨⟨⟨t1, t2, t3, t4, t5, t6, t7, a1⟩, rfl⟩, ⟨_, _, SF⟩, TF⟩
end Go.Proofs.YtlgkfnecahgedaaGreatDoor.tok
end

section
/- The document's next: code points. -/
set_option linter.unusedVariables false
set_option linter.unusedSimpArgs false
namespace Go.Proofs.YtlgkfnecahgedaaGreatDoor.tok
open Go.RowKit
open lin (BA Turns)

set_option maxHeartbeats 4000000 in
set_option maxRecDepth 100000 in
theorem nx_chr0 (rb : Nat) (ao : Option Addr) (n cap : Nat) (f : Nat → Int) (a k : Nat) (c p : Int) (w : World) (h : Rs w rb ao n cap f a k c p) (hl : a < n) (hk2 : k < 1000000) (hk : k = 0) (kc : classR f n a k = none) (ho : ∀ W, RT W rb (w.heap.size + 1) ao n cap f a k c p ⟨0, 0, 0, 0, [], false, a, 0⟩ → Calls Tryz.prog 26 #[.pointer (some ⟨rb, 0, none⟩), .pointer (some ⟨w.heap.size + 1, 0, none⟩)] W (fun e w' => e = .returned (.tuple #[.bool false, .bool true]) ∧ RT w' rb (w.heap.size + 1) ao n cap f a k c p ⟨0, 0, 0, 0, [], false, a, 0⟩ ∧ T2 rb (w.heap.size + 1) W w')) (kb : hasB f n a [92] = false) :
    Calls Tryz.prog 17 #[.pointer (some ⟨rb, 0, none⟩)] w (RNx w rb ao n cap f a c p ((point f n a).bind fun r a' => .ok (char r, k) a')) := by
  have KC : Hid (classR f n a k = none) := kc
  clear kc
  have KB : Hid (hasB f n a [92] = false) := kb
  clear kb
  obtain ⟨o, hoo⟩ : ∃ o, point f n a = o := ⟨_, rfl⟩
  rw [hoo]
  have KP : Hid (point f n a = o) := hoo
  clear hoo
  have HO : Hid (∀ W, RT W rb (w.heap.size + 1) ao n cap f a k c p ⟨0, 0, 0, 0, [], false, a, 0⟩ → Calls Tryz.prog 26 #[.pointer (some ⟨rb, 0, none⟩), .pointer (some ⟨w.heap.size + 1, 0, none⟩)] W (fun e w' => e = .returned (.tuple #[.bool false, .bool true]) ∧ RT w' rb (w.heap.size + 1) ao n cap f a k c p ⟨0, 0, 0, 0, [], false, a, 0⟩ ∧ T2 rb (w.heap.size + 1) W w')) := ho
  clear ho
  have hk3 : (k : Int) = 0 := by omega
  have hk4 : ((k : Int) == 0) = true := by simp; omega
  clear hk
  have hrl := h.lt
  have hn := h.nn
  have ha := h.aa
  have hcc := h.cc
  have hcm := h.cm
  have HBL : Hid (∀ b off, ao = some ⟨b, off, none⟩ → b < w.heap.size) := fun b off e => h.bytes_lt e
  obtain ⟨W, hW⟩ : ∃ W, (w.alloc (.cells #[.int .i64 0, .int .i64 0, .int .i64 0, .int .i64 0, .string ⟨#[]⟩, .bool false, .int .i64 0, .int .i64 0] 32)).alloc (.cells #[.int .i64 0, .int .i64 0, .int .i64 0, .int .i64 0, .string ⟨#[]⟩, .bool false, .int .i64 (a : Int), .int .i64 0] 32) = W := ⟨_, rfl⟩
  have HBW : Hid (Below w.heap.size w W) := by rw [Hid, ← hW]; exact ((Below.refl _ _).alloc (Nat.le_refl _) _).alloc (by simp) _
  have hsW : W.heap.size = w.heap.size + 2 := by rw [← hW]; simp
  have HGR : Hid (W.heap[w.heap.size]? = some (.cells #[.int .i64 0, .int .i64 0, .int .i64 0, .int .i64 0, .string ⟨#[]⟩, .bool false, .int .i64 0, .int .i64 0] 32 (0, 0))) := by rw [Hid, ← hW]; exact (Below.heap_alloc _ _ _ (by simp)).trans (World.alloc_heap_new _ _)
  have hT : W.heap[w.heap.size + 1]? = some (.cells #[.int .i64 0, .int .i64 0, .int .i64 0, .int .i64 0, .string ⟨#[]⟩, .bool false, .int .i64 (a : Int), .int .i64 0] 32 (0, 0)) := by
    rw [← hW]
    have := World.alloc_heap_new (w.alloc (.cells #[.int .i64 0, .int .i64 0, .int .i64 0, .int .i64 0, .string ⟨#[]⟩, .bool false, .int .i64 0, .int .i64 0] 32)) (.cells #[.int .i64 0, .int .i64 0, .int .i64 0, .int .i64 0, .string ⟨#[]⟩, .bool false, .int .i64 (a : Int), .int .i64 0] 32)
    simpa using this
  have S0 : RT W rb (w.heap.size + 1) ao n cap f a k c p ⟨0, 0, 0, 0, [], false, a, 0⟩ := ⟨h.turns (D := fun _ => False) (.of_below HBW.out) id (fun _ _ _ => id), hT, by omega, fun b off e => by have := HBL.out b off e; omega⟩
  have U0 : T2 rb (w.heap.size + 1) W W := lin.Turns.refl _ W
  have hne : ¬ w.heap.size + 1 = rb := by omega
  have hne' : ¬ rb = w.heap.size + 1 := by omega
  have hne2 : ¬ w.heap.size = rb := by omega
  have hne3 : ¬ rb = w.heap.size := by omega
  have c1w := h.cells.2.1
  have HWE : Hid ((w.alloc (.cells #[.int .i64 0, .int .i64 0, .int .i64 0, .int .i64 0, .string ⟨#[]⟩, .bool false, .int .i64 0, .int .i64 0] 32)).alloc (.cells #[.int .i64 0, .int .i64 0, .int .i64 0, .int .i64 0, .string ⟨#[]⟩, .bool false, .int .i64 (a : Int), .int .i64 0] 32) = W) := hW
  clear hT h hW
  obtain ⟨⟨c0, c1, c2, z1, z2⟩, ⟨k0, k1, k2, k3, k4, k5, k6, k7⟩, ⟨f0, f1, f2, f3, f4, f5, f6, f7⟩⟩ := S0.cells
  go_enter Tryz.func17, Tryz.ntmps17
  have C := rclass rb (w.heap.size + 1) ao n cap f a k c p a W S0 hl hk2
  rw [KC.out, ← HWE.out] at C
  clear KC
  go_wp2_with fail
  refine C.mono ?_
  rintro e w1 ⟨rfl, S1, U1⟩
  rw [HWE.out] at U1
  clear C S0 U0
  clear c0 c1 c2 z1 z2 k0 k1 k2 k3 k4 k5 k6 k7 f0 f1 f2 f3 f4 f5 f6 f7
  obtain ⟨⟨c0, c1, c2, z1, z2⟩, ⟨k0, k1, k2, k3, k4, k5, k6, k7⟩, ⟨f0, f1, f2, f3, f4, f5, f6, f7⟩⟩ := S1.cells
  have C := HO.out _ S1
  go_wp2_with fail
  refine C.mono ?_
  rintro e w2 ⟨rfl, S2, V2⟩
  have U2 := lin.Turns.trans U1 V2
  clear C S1 U1 V2
  clear c0 c1 c2 z1 z2 k0 k1 k2 k3 k4 k5 k6 k7 f0 f1 f2 f3 f4 f5 f6 f7
  obtain ⟨⟨c0, c1, c2, z1, z2⟩, ⟨k0, k1, k2, k3, k4, k5, k6, k7⟩, ⟨f0, f1, f2, f3, f4, f5, f6, f7⟩⟩ := S2.cells
  have C := has_t S2 U2 [92] (by decide) (by decide)
  rw [KB.out] at C
  go_wp2_with fail
  refine C.mono ?_
  rintro e w3 ⟨rfl, S3, U3⟩
  clear C S2 U2
  clear c0 c1 c2 z1 z2 k0 k1 k2 k3 k4 k5 k6 k7 f0 f1 f2 f3 f4 f5 f6 f7
  obtain ⟨⟨c0, c1, c2, z1, z2⟩, ⟨k0, k1, k2, k3, k4, k5, k6, k7⟩, ⟨f0, f1, f2, f3, f4, f5, f6, f7⟩⟩ := S3.cells
  have S4 := S3.t0 1
  have U4 := T2.put U3 0 (.int .i64 1)
  clear S3 U3
  cases o with
  | ok r a1 =>
    have C := char_ok S4 U4 hl KP.out
    go_wp2_with fail
    refine C.mono ?_
    rintro e w5 ⟨rfl, S5, U5⟩
    clear C S4 U4 KP
    clear c0 c1 c2 z1 z2 k0 k1 k2 k3 k4 k5 k6 k7 f0 f1 f2 f3 f4 f5 f6 f7
    obtain ⟨⟨c0, c1, c2, z1, z2⟩, ⟨k0, k1, k2, k3, k4, k5, k6, k7⟩, ⟨f0, f1, f2, f3, f4, f5, f6, f7⟩⟩ := S5.cells
    have S6 := S5.t2 r
    have U6 := T2.put U5 2 (.int .i64 r)
    clear S5 U5
    have GR := (U6.block w.heap.size (by omega) (by omega)).trans HGR.out
    have GRj := (U6.block w.heap.size (by omega) (by omega)).trans HGR.out
    have S9 := S6.t7 a1
    have U9 := T2.put U6 7 (.int .i64 ((a1 : Nat) : Int))
    have GS : ((w5.setCell ⟨w.heap.size + 1, 2, none⟩ (.int .i64 r)).setCell ⟨w.heap.size + 1, 7, none⟩ (.int .i64 ((a1 : Nat) : Int))).heap[w.heap.size]? = some (.cells #[.int .i64 0, .int .i64 0, .int .i64 0, .int .i64 0, .string ⟨#[]⟩, .bool false, .int .i64 0, .int .i64 0] 32 (0, 0)) := (heap_setCell_other _ _ _ _ (by show w.heap.size ≠ w.heap.size + 1; omega)).trans GR
    have GJ : w5.heap[w.heap.size]? = some (.cells #[.int .i64 0, .int .i64 0, .int .i64 0, .int .i64 0, .string ⟨#[]⟩, .bool false, .int .i64 0, .int .i64 0] 32 (0, 0)) := (heap_setCell_other w5 _ _ _ (by show w.heap.size ≠ w.heap.size + 1; omega)).symm.trans GR
    obtain ⟨⟨g0, g1, g2, g3, g4, g5, g6, g7⟩, ⟨y0, y1, y2, y3, y4, y5, y6, y7⟩⟩ := blk8 GJ
    have GF := set8g GS (.int .i64 1) (.int .i64 0) (.int .i64 r) (.int .i64 0) (.string (BA [])) (.bool false) (.int .i64 ((a : Nat) : Int)) (.int .i64 ((a1 : Nat) : Int))
    have SF := S9.rs.set8 (g := w.heap.size) (by omega) (fun b off e => by have := HBL.out b off e; omega) (.int .i64 1) (.int .i64 0) (.int .i64 r) (.int .i64 0) (.string (BA [])) (.bool false) (.int .i64 ((a : Nat) : Int)) (.int .i64 ((a1 : Nat) : Int))
    have TF := Tn.set8 (tn_of HBW.out U9 (by omega)) (g := w.heap.size) (Nat.le_refl _) (.int .i64 1) (.int .i64 0) (.int .i64 r) (.int .i64 0) (.string (BA [])) (.bool false) (.int .i64 ((a : Nat) : Int)) (.int .i64 ((a1 : Nat) : Int))
    clear S9 U9 GS GR GRj GJ S6 U6
    go_wp2
    exact bodyPost_ret (results2c Tryz.results17 _ _ (.bool true) w.heap.size _ _ _ _ rfl rfl GF Tryz.underlying32 rfl infoTok) rfl ⟨rfl, SF, TF⟩
  | no cc1 pp1 =>
    have C := char_no S4 U4 hl KP.out
    go_wp2_with fail
    refine C.mono ?_
    rintro e w5 ⟨rfl, ⟨a1, S5⟩, U5⟩
    clear C S4 U4 KP
    clear c0 c1 c2 z1 z2 k0 k1 k2 k3 k4 k5 k6 k7 f0 f1 f2 f3 f4 f5 f6 f7
    obtain ⟨⟨c0, c1, c2, z1, z2⟩, ⟨k0, k1, k2, k3, k4, k5, k6, k7⟩, ⟨f0, f1, f2, f3, f4, f5, f6, f7⟩⟩ := S5.cells
    have S6 := S5.t2 0
    have U6 := T2.put U5 2 (.int .i64 0)
    clear S5 U5
    have GR := (U6.block w.heap.size (by omega) (by omega)).trans HGR.out
    have S9 := S6.t7 a1
    have U9 := T2.put U6 7 (.int .i64 ((a1 : Nat) : Int))
    have GS : ((w5.setCell ⟨w.heap.size + 1, 2, none⟩ (.int .i64 0)).setCell ⟨w.heap.size + 1, 7, none⟩ (.int .i64 ((a1 : Nat) : Int))).heap[w.heap.size]? = some (.cells #[.int .i64 0, .int .i64 0, .int .i64 0, .int .i64 0, .string ⟨#[]⟩, .bool false, .int .i64 0, .int .i64 0] 32 (0, 0)) := (heap_setCell_other _ _ _ _ (by show w.heap.size ≠ w.heap.size + 1; omega)).trans GR
    have GJ : w5.heap[w.heap.size]? = some (.cells #[.int .i64 0, .int .i64 0, .int .i64 0, .int .i64 0, .string ⟨#[]⟩, .bool false, .int .i64 0, .int .i64 0] 32 (0, 0)) := (heap_setCell_other w5 _ _ _ (by show w.heap.size ≠ w.heap.size + 1; omega)).symm.trans GR
    obtain ⟨⟨g0, g1, g2, g3, g4, g5, g6, g7⟩, ⟨y0, y1, y2, y3, y4, y5, y6, y7⟩⟩ := blk8 GJ
    have GF := set8g GS (.int .i64 1) (.int .i64 0) (.int .i64 0) (.int .i64 0) (.string (BA [])) (.bool false) (.int .i64 ((a : Nat) : Int)) (.int .i64 ((a1 : Nat) : Int))
    have SF := S9.rs.set8 (g := w.heap.size) (by omega) (fun b off e => by have := HBL.out b off e; omega) (.int .i64 1) (.int .i64 0) (.int .i64 0) (.int .i64 0) (.string (BA [])) (.bool false) (.int .i64 ((a : Nat) : Int)) (.int .i64 ((a1 : Nat) : Int))
    have TF := Tn.set8 (tn_of HBW.out U9 (by omega)) (g := w.heap.size) (Nat.le_refl _) (.int .i64 1) (.int .i64 0) (.int .i64 0) (.int .i64 0) (.string (BA [])) (.bool false) (.int .i64 ((a : Nat) : Int)) (.int .i64 ((a1 : Nat) : Int))
    clear S9 U9 GS GR GJ S6 U6
    go_wp2
    exact bodyPost_ret (results2c Tryz.results17 _ _ (.bool false) w.heap.size _ _ _ _ rfl rfl GF Tryz.underlying32 rfl infoTok) rfl ⟨⟨⟨1, 0, 0, 0, [], false, a, a1⟩, rfl⟩, ⟨_, _, SF⟩, TF⟩
set_option maxHeartbeats 4000000 in
set_option maxRecDepth 100000 in
theorem nx_chrk (rb : Nat) (ao : Option Addr) (n cap : Nat) (f : Nat → Int) (a k : Nat) (c p : Int) (w : World) (h : Rs w rb ao n cap f a k c p) (hl : a < n) (hk2 : k < 1000000) (hk : ¬ k = 0) (kc : classR f n a k = none) (kb : hasB f n a [92] = false) :
    Calls Tryz.prog 17 #[.pointer (some ⟨rb, 0, none⟩)] w (RNx w rb ao n cap f a c p ((point f n a).bind fun r a' => .ok (char r, k) a')) := by
  have KC : Hid (classR f n a k = none) := kc
  clear kc
  have KB : Hid (hasB f n a [92] = false) := kb
  clear kb
  obtain ⟨o, hoo⟩ : ∃ o, point f n a = o := ⟨_, rfl⟩
  rw [hoo]
  have KP : Hid (point f n a = o) := hoo
  clear hoo
  have hk3 : ¬ (k : Int) = 0 := by omega
  have hk4 : ((k : Int) == 0) = false := by simp; omega
  clear hk
  have hrl := h.lt
  have hn := h.nn
  have ha := h.aa
  have hcc := h.cc
  have hcm := h.cm
  have HBL : Hid (∀ b off, ao = some ⟨b, off, none⟩ → b < w.heap.size) := fun b off e => h.bytes_lt e
  obtain ⟨W, hW⟩ : ∃ W, (w.alloc (.cells #[.int .i64 0, .int .i64 0, .int .i64 0, .int .i64 0, .string ⟨#[]⟩, .bool false, .int .i64 0, .int .i64 0] 32)).alloc (.cells #[.int .i64 0, .int .i64 0, .int .i64 0, .int .i64 0, .string ⟨#[]⟩, .bool false, .int .i64 (a : Int), .int .i64 0] 32) = W := ⟨_, rfl⟩
  have HBW : Hid (Below w.heap.size w W) := by rw [Hid, ← hW]; exact ((Below.refl _ _).alloc (Nat.le_refl _) _).alloc (by simp) _
  have hsW : W.heap.size = w.heap.size + 2 := by rw [← hW]; simp
  have HGR : Hid (W.heap[w.heap.size]? = some (.cells #[.int .i64 0, .int .i64 0, .int .i64 0, .int .i64 0, .string ⟨#[]⟩, .bool false, .int .i64 0, .int .i64 0] 32 (0, 0))) := by rw [Hid, ← hW]; exact (Below.heap_alloc _ _ _ (by simp)).trans (World.alloc_heap_new _ _)
  have hT : W.heap[w.heap.size + 1]? = some (.cells #[.int .i64 0, .int .i64 0, .int .i64 0, .int .i64 0, .string ⟨#[]⟩, .bool false, .int .i64 (a : Int), .int .i64 0] 32 (0, 0)) := by
    rw [← hW]
    have := World.alloc_heap_new (w.alloc (.cells #[.int .i64 0, .int .i64 0, .int .i64 0, .int .i64 0, .string ⟨#[]⟩, .bool false, .int .i64 0, .int .i64 0] 32)) (.cells #[.int .i64 0, .int .i64 0, .int .i64 0, .int .i64 0, .string ⟨#[]⟩, .bool false, .int .i64 (a : Int), .int .i64 0] 32)
    simpa using this
  have S0 : RT W rb (w.heap.size + 1) ao n cap f a k c p ⟨0, 0, 0, 0, [], false, a, 0⟩ := ⟨h.turns (D := fun _ => False) (.of_below HBW.out) id (fun _ _ _ => id), hT, by omega, fun b off e => by have := HBL.out b off e; omega⟩
  have U0 : T2 rb (w.heap.size + 1) W W := lin.Turns.refl _ W
  have hne : ¬ w.heap.size + 1 = rb := by omega
  have hne' : ¬ rb = w.heap.size + 1 := by omega
  have hne2 : ¬ w.heap.size = rb := by omega
  have hne3 : ¬ rb = w.heap.size := by omega
  have c1w := h.cells.2.1
  have HWE : Hid ((w.alloc (.cells #[.int .i64 0, .int .i64 0, .int .i64 0, .int .i64 0, .string ⟨#[]⟩, .bool false, .int .i64 0, .int .i64 0] 32)).alloc (.cells #[.int .i64 0, .int .i64 0, .int .i64 0, .int .i64 0, .string ⟨#[]⟩, .bool false, .int .i64 (a : Int), .int .i64 0] 32) = W) := hW
  clear hT h hW
  obtain ⟨⟨c0, c1, c2, z1, z2⟩, ⟨k0, k1, k2, k3, k4, k5, k6, k7⟩, ⟨f0, f1, f2, f3, f4, f5, f6, f7⟩⟩ := S0.cells
  go_enter Tryz.func17, Tryz.ntmps17
  have C := rclass rb (w.heap.size + 1) ao n cap f a k c p a W S0 hl hk2
  rw [KC.out, ← HWE.out] at C
  clear KC
  go_wp2_with fail
  refine C.mono ?_
  rintro e w1 ⟨rfl, S1, U1⟩
  rw [HWE.out] at U1
  clear C S0 U0
  clear c0 c1 c2 z1 z2 k0 k1 k2 k3 k4 k5 k6 k7 f0 f1 f2 f3 f4 f5 f6 f7
  obtain ⟨⟨c0, c1, c2, z1, z2⟩, ⟨k0, k1, k2, k3, k4, k5, k6, k7⟩, ⟨f0, f1, f2, f3, f4, f5, f6, f7⟩⟩ := S1.cells
  have C := has_t S1 U1 [92] (by decide) (by decide)
  rw [KB.out] at C
  go_wp2_with fail
  refine C.mono ?_
  rintro e w2 ⟨rfl, S2, U2⟩
  clear C S1 U1
  clear c0 c1 c2 z1 z2 k0 k1 k2 k3 k4 k5 k6 k7 f0 f1 f2 f3 f4 f5 f6 f7
  obtain ⟨⟨c0, c1, c2, z1, z2⟩, ⟨k0, k1, k2, k3, k4, k5, k6, k7⟩, ⟨f0, f1, f2, f3, f4, f5, f6, f7⟩⟩ := S2.cells
  have S3 := S2.t0 1
  have U3 := T2.put U2 0 (.int .i64 1)
  clear S2 U2
  cases o with
  | ok r a1 =>
    have C := char_ok S3 U3 hl KP.out
    go_wp2_with fail
    refine C.mono ?_
    rintro e w4 ⟨rfl, S4, U4⟩
    clear C S3 U3 KP
    clear c0 c1 c2 z1 z2 k0 k1 k2 k3 k4 k5 k6 k7 f0 f1 f2 f3 f4 f5 f6 f7
    obtain ⟨⟨c0, c1, c2, z1, z2⟩, ⟨k0, k1, k2, k3, k4, k5, k6, k7⟩, ⟨f0, f1, f2, f3, f4, f5, f6, f7⟩⟩ := S4.cells
    have S5 := S4.t2 r
    have U5 := T2.put U4 2 (.int .i64 r)
    clear S4 U4
    have GR := (U5.block w.heap.size (by omega) (by omega)).trans HGR.out
    have GRj := (U5.block w.heap.size (by omega) (by omega)).trans HGR.out
    have S9 := S5.t7 a1
    have U9 := T2.put U5 7 (.int .i64 ((a1 : Nat) : Int))
    have GS : ((w4.setCell ⟨w.heap.size + 1, 2, none⟩ (.int .i64 r)).setCell ⟨w.heap.size + 1, 7, none⟩ (.int .i64 ((a1 : Nat) : Int))).heap[w.heap.size]? = some (.cells #[.int .i64 0, .int .i64 0, .int .i64 0, .int .i64 0, .string ⟨#[]⟩, .bool false, .int .i64 0, .int .i64 0] 32 (0, 0)) := (heap_setCell_other _ _ _ _ (by show w.heap.size ≠ w.heap.size + 1; omega)).trans GR
    have GJ : w4.heap[w.heap.size]? = some (.cells #[.int .i64 0, .int .i64 0, .int .i64 0, .int .i64 0, .string ⟨#[]⟩, .bool false, .int .i64 0, .int .i64 0] 32 (0, 0)) := (heap_setCell_other w4 _ _ _ (by show w.heap.size ≠ w.heap.size + 1; omega)).symm.trans GR
    obtain ⟨⟨g0, g1, g2, g3, g4, g5, g6, g7⟩, ⟨y0, y1, y2, y3, y4, y5, y6, y7⟩⟩ := blk8 GJ
    have GF := set8g GS (.int .i64 1) (.int .i64 0) (.int .i64 r) (.int .i64 0) (.string (BA [])) (.bool false) (.int .i64 ((a : Nat) : Int)) (.int .i64 ((a1 : Nat) : Int))
    have SF := S9.rs.set8 (g := w.heap.size) (by omega) (fun b off e => by have := HBL.out b off e; omega) (.int .i64 1) (.int .i64 0) (.int .i64 r) (.int .i64 0) (.string (BA [])) (.bool false) (.int .i64 ((a : Nat) : Int)) (.int .i64 ((a1 : Nat) : Int))
    have TF := Tn.set8 (tn_of HBW.out U9 (by omega)) (g := w.heap.size) (Nat.le_refl _) (.int .i64 1) (.int .i64 0) (.int .i64 r) (.int .i64 0) (.string (BA [])) (.bool false) (.int .i64 ((a : Nat) : Int)) (.int .i64 ((a1 : Nat) : Int))
    clear S9 U9 GS GR GRj GJ S5 U5
    go_wp2
    exact bodyPost_ret (results2c Tryz.results17 _ _ (.bool true) w.heap.size _ _ _ _ rfl rfl GF Tryz.underlying32 rfl infoTok) rfl ⟨rfl, SF, TF⟩
  | no cc1 pp1 =>
    have C := char_no S3 U3 hl KP.out
    go_wp2_with fail
    refine C.mono ?_
    rintro e w4 ⟨rfl, ⟨a1, S4⟩, U4⟩
    clear C S3 U3 KP
    clear c0 c1 c2 z1 z2 k0 k1 k2 k3 k4 k5 k6 k7 f0 f1 f2 f3 f4 f5 f6 f7
    obtain ⟨⟨c0, c1, c2, z1, z2⟩, ⟨k0, k1, k2, k3, k4, k5, k6, k7⟩, ⟨f0, f1, f2, f3, f4, f5, f6, f7⟩⟩ := S4.cells
    have S5 := S4.t2 0
    have U5 := T2.put U4 2 (.int .i64 0)
    clear S4 U4
    have GR := (U5.block w.heap.size (by omega) (by omega)).trans HGR.out
    have S9 := S5.t7 a1
    have U9 := T2.put U5 7 (.int .i64 ((a1 : Nat) : Int))
    have GS : ((w4.setCell ⟨w.heap.size + 1, 2, none⟩ (.int .i64 0)).setCell ⟨w.heap.size + 1, 7, none⟩ (.int .i64 ((a1 : Nat) : Int))).heap[w.heap.size]? = some (.cells #[.int .i64 0, .int .i64 0, .int .i64 0, .int .i64 0, .string ⟨#[]⟩, .bool false, .int .i64 0, .int .i64 0] 32 (0, 0)) := (heap_setCell_other _ _ _ _ (by show w.heap.size ≠ w.heap.size + 1; omega)).trans GR
    have GJ : w4.heap[w.heap.size]? = some (.cells #[.int .i64 0, .int .i64 0, .int .i64 0, .int .i64 0, .string ⟨#[]⟩, .bool false, .int .i64 0, .int .i64 0] 32 (0, 0)) := (heap_setCell_other w4 _ _ _ (by show w.heap.size ≠ w.heap.size + 1; omega)).symm.trans GR
    obtain ⟨⟨g0, g1, g2, g3, g4, g5, g6, g7⟩, ⟨y0, y1, y2, y3, y4, y5, y6, y7⟩⟩ := blk8 GJ
    have GF := set8g GS (.int .i64 1) (.int .i64 0) (.int .i64 0) (.int .i64 0) (.string (BA [])) (.bool false) (.int .i64 ((a : Nat) : Int)) (.int .i64 ((a1 : Nat) : Int))
    have SF := S9.rs.set8 (g := w.heap.size) (by omega) (fun b off e => by have := HBL.out b off e; omega) (.int .i64 1) (.int .i64 0) (.int .i64 0) (.int .i64 0) (.string (BA [])) (.bool false) (.int .i64 ((a : Nat) : Int)) (.int .i64 ((a1 : Nat) : Int))
    have TF := Tn.set8 (tn_of HBW.out U9 (by omega)) (g := w.heap.size) (Nat.le_refl _) (.int .i64 1) (.int .i64 0) (.int .i64 0) (.int .i64 0) (.string (BA [])) (.bool false) (.int .i64 ((a : Nat) : Int)) (.int .i64 ((a1 : Nat) : Int))
    clear S9 U9 GS GR GJ S5 U5
    go_wp2
    exact bodyPost_ret (results2c Tryz.results17 _ _ (.bool false) w.heap.size _ _ _ _ rfl rfl GF Tryz.underlying32 rfl infoTok) rfl ⟨⟨⟨1, 0, 0, 0, [], false, a, a1⟩, rfl⟩, ⟨_, _, SF⟩, TF⟩
end Go.Proofs.YtlgkfnecahgedaaGreatDoor.tok
end
