/- Texts that the proof leans on, one behind the other. -/
import Derived.Test.YtbdediacfckpcaaGreatDoorBeTok1
import Derived.Test.YtbdediacfckpcaaGreatDoorBeUtf1
import Derived.Deep.RegionWith
import Derived.Laws.Rows

section
/- The next code point of a pattern. -/
set_option linter.unusedVariables false
set_option linter.unusedSimpArgs false
namespace Go.Proofs.YtbdediacfckpcaaGreatDoor.tok
open Go.RowKit
open lin (BA Turns)

/-- What was there is as it was, as equations. -/
theorem below_eqs {W w' : World} (h : Below W.heap.size W w') : (∀ p : Addr, p.block < W.heap.size → w'.cell? p = W.cell? p) ∧ (∀ p : Addr, p.block < W.heap.size → w'.frozen? p = W.frozen? p) ∧ W.heap.size ≤ w'.heap.size :=
  ⟨fun p hp => h.cell hp, fun p hp => h.frozen hp, h.size⟩

theorem run_cut (f : Nat → Int) (n N : Nat) (hN : N ≤ n) : ∀ k r e l h, (utf.run f n k r e l h).2.1 ≤ N → utf.run f N k r e l h = utf.run f n k r e l h := by
  intro k
  induction k with
  | zero => intro r e l h _; simp [utf.run]
  | succ k ih =>
    intro r e l h hk
    by_cases c : e < n ∧ l ≤ f e ∧ f e ≤ h
    · rw [utf.run_go f n (k + 1) r e l h (by omega) c] at hk ⊢
      have := utf.run_end f n (k + 1 - 1) (r * 64 + f e % 64) (e + 1) 128 191
      rw [utf.run_go f N (k + 1) r e l h (by omega) ⟨by omega, c.2⟩]
      exact ih _ _ _ _ hk
    · rw [utf.run_stop f n (k + 1) r e l h (by omega) c, utf.run_stop f N (k + 1) r e l h (by omega) (fun q => c ⟨by omega, q.2⟩)]
theorem it_cut (f : Nat → Int) (n N a : Nat) (hN : N ≤ n) (h : (utf.it f n a).2.1 ≤ N) : utf.it f N a = utf.it f n a := by
  unfold utf.it at h ⊢
  split
  · rfl
  · rename_i hs
    rw [if_neg hs] at h
    exact run_cut f n N hN _ _ _ _ _ h
/-- The bytes of an item, by themselves, are well-formed if it is. -/
theorem sub_valid (f : Nat → Int) (n a : Nat) (ha : a < n) : utf.valid (fun i => f (a + i)) ((utf.it f n a).2.1 - a) 0 = (utf.it f n a).2.2 := by
  have e := utf.it_end f n a ha
  obtain ⟨m, hm⟩ : ∃ m, (utf.it f n a).2.1 = a + m := ⟨(utf.it f n a).2.1 - a, by omega⟩
  have hc := it_cut f n (a + m) a (by omega) (by omega)
  have hs := utf.it_shift f m a 0
  rw [Nat.add_zero, hc, hm] at hs
  rw [hm, show a + m - a = m by omega, utf.valid_step _ m 0 (by omega), hs]
  simp only []
  rw [show a + m - a = m by omega, utf.valid_end _ m m (Nat.le_refl _), Bool.and_true]

set_option maxHeartbeats 1000000 in
set_option maxRecDepth 100000 in
theorem point_any (sb : Nat) (ao : Option Addr) (n cap : Nat) (f : Nat → Int) (a st k : Nat) (tv : Value) (w : World) (h : Sc w sb ao n cap f a st k tv) :
    Calls Tryz.prog 133 #[.pointer (some ⟨sb, 0, none⟩)] w (End w sb ao n cap f st k tv (iv .i64) (point f n a)) := by
  have hlt := h.lt
  obtain ⟨c0, c1, c2, c3, c4, z0, z1, z2, z3, z4⟩ := h.cells
  have hn := h.nn
  have ha := h.aa
  obtain ⟨R, hR⟩ : ∃ R, point f n a = R := ⟨_, rfl⟩
  rw [hR]
  by_cases hl : a < n
  · have HR : Hid (R = if (utf.it f n a).2.2 = true then .ok (utf.it f n a).1 (utf.it f n a).2.1 else .no 131 a) := by unfold Hid; rw [← hR]; unfold point; rw [if_pos hl]
    clear hR
    obtain ⟨b, off, rfl, hb, hcc⟩ := h.byt
    have NX : Hid (∀ W, Below w.heap.size w W → Calls Tryz.prog 138 #[.slice (some ⟨b, off, none⟩) n cap, .int .i64 a] W fun e w' =>
      e = .returned (.tuple #[.agg #[.int .i64 (utf.it f n a).1, .int .i64 a, .int .i64 (utf.it f n a).2.1], .bool true]) ∧ Below W.heap.size W w' ∧ w'.cell? ⟨sb, 0, none⟩ = some (.slice (some ⟨b, off, none⟩) n cap) ∧ w'.cell? ⟨sb, 1, none⟩ = some (.int .i64 a)) := fun W hW => (utf.next_yes b off n cap f a W (fun i hi => (hW.cell (World.block_lt_of_cell? w _ (hcc i hi))).trans (hcc i hi)) hl (by omega) h.ff).mono fun e w' H =>
        ⟨H.1, H.2, (hW.trans (H.2.mono hW.size)).cell (p := ⟨sb, 0, none⟩) hlt |>.trans c0, (hW.trans (H.2.mono hW.size)).cell (p := ⟨sb, 1, none⟩) hlt |>.trans c1⟩
    have VA : Hid (∀ W', Sc W' sb (some ⟨b, off, none⟩) n cap f a st k tv → Calls Tryz.prog 140 #[.slice (some ⟨b, off + a, none⟩) ((utf.it f n a).2.1 - a) (cap - a)] W' fun e w' => e = .returned (.bool (utf.it f n a).2.2) ∧ Below W'.heap.size W' w') := fun W' hW => by
      obtain ⟨b', off', e, hne, hc⟩ := hW.byt
      cases e
      have hie := utf.it_end f n a hl
      have := utf.valid_any (some ⟨b, off + a, none⟩) ((utf.it f n a).2.1 - a) (cap - a) (fun i => f (a + i)) W' (.inr ⟨b, off + a, rfl, fun i hi => by rw [Nat.add_assoc]; exact hc (a + i) (by omega)⟩) (by omega) (fun i => h.ff _)
      rw [sub_valid f n a hl] at this
      exact this
    have HC : Hid (∀ i, i < n → w.cell? ⟨b, off + i, none⟩ = some (.int .u8 (f i))) := hcc
    have hie := utf.it_end f n a hl
    have hcc2 := h.cc
    clear hcc
    generalize (utf.it f n a).1 = r at *
    generalize (utf.it f n a).2.1 = E at *
    generalize (utf.it f n a).2.2 = K at *
    have l1 : (0 : Int) ≤ (a : Int) := by omega
    have l2 : (a : Int) ≤ (E : Int) := by omega
    have l3 : (E : Int) ≤ (cap : Int) := by omega
    have l4 : (a : Int) < (cap : Int) := by omega
    have l5 : ¬ cap = a := by omega
    have l6 : ¬ cap - a = 0 := by omega
    have l7 : (E : Int) ≤ (n : Int) := by omega
    have l8 : (0 : Int) ≤ (E : Int) := by omega
    have hne : ¬ sb = w.heap.size := by omega
    have hne' : ¬ w.heap.size = sb := by omega
    have hnw := World.new_ne w _ c0
    have hnw1 := World.new_ne w _ c1
    go_enter Tryz.func133, Tryz.ntmps133
    go_wp2
    go_region_held3 (fun w' => w'.cell? ⟨sb, 0, none⟩ = some (.slice (some ⟨b, off, none⟩) n cap) ∧ w'.cell? ⟨sb, 1, none⟩ = some (.int .i64 a)) (go_keep)
      (first | (go_at_call 138; refine (NX.out _ ?_).mono ?_; (rotate_left; rintro e w1 ⟨rfl, hb1, m0, m1⟩; obtain ⟨q1, q2, q3⟩ := below_eqs hb1; rotate_right; (repeat' first | exact Below.refl _ _ | assumption | refine below_drewN ?_ _ | refine Below.setCell ?_ (by simp) _ | refine Below.alloc ?_ (by simp) _))))
    · have hg : (w1.alloc (.cells #[.int .i64 r, .int .i64 a, .int .i64 E] 154)).heap[w1.heap.size]? = some (.cells #[.int .i64 r, .int .i64 a, .int .i64 E] 154 (0, 0)) := World.alloc_heap_new _ _
      have S0 := h.drew.below hb1
      have S := S0.alloc (.cells #[.int .i64 r, .int .i64 a, .int .i64 E] 154)
      have T0 : Tn sb w w1 := Tn.beyond (lin.Turns.drew (lin.Turns.refl _ w)) hb1
      have T := Tn.more T0 (.cells #[.int .i64 r, .int .i64 a, .int .i64 E] 154)
      obtain ⟨g, hG⟩ : ∃ g, w1.heap.size = g := ⟨_, rfl⟩
      have hgl : w.heap.size ≤ g := by rw [← hG]; exact T0.size
      clear m0 m1 q1 q2 q3 hb1 S0 T0
      generalize w1.alloc (.cells #[.int .i64 r, .int .i64 a, .int .i64 E] 154) = W at *
      rw [hG] at hg ⊢
      clear hG
      have hgs : g < W.heap.size := (Array.getElem?_eq_some_iff.1 hg).1
      have hgne : ¬ g = sb := by omega
      obtain ⟨g0, g1, g2, y0, y1, y2⟩ := utf.blk3 hg
      obtain ⟨d0, d1, d2, d3, d4, x0, x1, x2, x3, x4⟩ := S.cells
      have V : ∀ W', Below W.heap.size W W' → Calls Tryz.prog 140 #[.slice (some ⟨b, off + a, none⟩) (E - a) (cap - a)] W' fun e w' => e = .returned (.bool K) ∧ Below W.heap.size W w' ∧ w'.cell? ⟨sb, 0, none⟩ = some (.slice (some ⟨b, off, none⟩) n cap) ∧ w'.cell? ⟨g, 1, none⟩ = some (.int .i64 a) ∧ w'.cell? ⟨g, 2, none⟩ = some (.int .i64 E) := fun W' hW => (VA.out W' (S.below hW)).mono fun e w' H =>
        have q := hW.trans (H.2.mono hW.size)
        ⟨H.1, q, (q.cell (p := ⟨sb, 0, none⟩) (by show sb < _; omega)).trans d0, (q.cell (p := ⟨g, 1, none⟩) hgs).trans g1, (q.cell (p := ⟨g, 2, none⟩) hgs).trans g2⟩
      go_wp2
      go_region_held3 (fun w' => w'.cell? ⟨sb, 0, none⟩ = some (.slice (some ⟨b, off, none⟩) n cap) ∧ w'.cell? ⟨g, 1, none⟩ = some (.int .i64 a) ∧ w'.cell? ⟨g, 2, none⟩ = some (.int .i64 E)) (go_keep)
        (first | (go_at_call 140; refine (V _ ?_).mono ?_; (rotate_left; rintro e w3 ⟨rfl, hb3, m0, m1, m2⟩; rotate_right; (repeat' first | exact Below.refl _ _ | assumption | refine below_drewN ?_ _ | refine Below.setCell ?_ (by simp) _ | refine Below.alloc ?_ (by simp) _))))
      have S3 := S.below hb3
      have T3 := Tn.beyond T hb3
      obtain ⟨g0', g1', g2', -, -, -⟩ := utf.blk3 ((hb3.block g hgs).trans hg)
      obtain ⟨d0', d1', -, -, -, x0', x1', -, -, -⟩ := S3.cells
      clear V VA hb3 m0 m1 m2 d0 d1 d2 d3 d4 x0 x1 x2 x3 x4 g0 g1 g2 y0 y1 y2 S T
      cases K with
      | true =>
        obtain rfl : R = .ok r E := HR.out
        go_wp2
        go_ret
        refine ⟨rfl, ?_, ?_⟩
        · exact Sc.put1i S3 rfl (by omega)
        · exact Tn.put T3 _ _
      | false =>
        obtain rfl : R = .no 131 a := HR.out
        go_wp2
        exact ⟨rfl, rfl, ⟨_, _, S3⟩, T3⟩

    · have hg0 : w1.heap[w.heap.size]? = some (.cells #[.int .i64 0, .int .i64 0, .int .i64 0] 154 (0, 0)) := (hb1.block _ (by simp)).trans (World.alloc_heap_new _ _)
      have hg := heap_setCell_same _ _ 2 _ _ (.int .i64 E) (heap_setCell_same _ _ 1 _ _ (.int .i64 a) (heap_setCell_same _ _ 0 _ _ (.int .i64 r) hg0))
      have S0 := (h.alloc (.cells #[.int .i64 0, .int .i64 0, .int .i64 0] 154)).drew.below hb1
      have S := Sc.later h (p := ⟨w.heap.size, 2, none⟩) (Sc.later h (p := ⟨w.heap.size, 1, none⟩) (Sc.later h (p := ⟨w.heap.size, 0, none⟩) S0 (Nat.le_refl _) (.int .i64 r)) (Nat.le_refl _) (.int .i64 a)) (Nat.le_refl _) (.int .i64 E)
      have T0 : Tn sb w w1 := Tn.beyond (lin.Turns.drew (Tn.more (lin.Turns.refl _ w) _)) hb1
      have T := Tn.new (p := ⟨w.heap.size, 2, none⟩) (Tn.new (p := ⟨w.heap.size, 1, none⟩) (Tn.new (p := ⟨w.heap.size, 0, none⟩) T0 (Nat.le_refl _) (.int .i64 r)) (Nat.le_refl _) (.int .i64 a)) (Nat.le_refl _) (.int .i64 E)
      clear m0 m1 q1 q2 q3 hb1 hg0 S0 T0
      obtain ⟨g, hG⟩ : ∃ g, w.heap.size = g := ⟨_, rfl⟩
      have hgl : w.heap.size ≤ g := by omega
      generalize ((w1.setCell ⟨w.heap.size, 0, none⟩ (.int .i64 r)).setCell ⟨w.heap.size, 1, none⟩ (.int .i64 a)).setCell ⟨w.heap.size, 2, none⟩ (.int .i64 E) = W at *
      rw [hG] at hg ⊢
      clear hG
      have hgs : g < W.heap.size := (Array.getElem?_eq_some_iff.1 hg).1
      have hgne : ¬ g = sb := by omega
      obtain ⟨g0, g1, g2, y0, y1, y2⟩ := utf.blk3 hg
      obtain ⟨d0, d1, d2, d3, d4, x0, x1, x2, x3, x4⟩ := S.cells
      have V : ∀ W', Below W.heap.size W W' → Calls Tryz.prog 140 #[.slice (some ⟨b, off + a, none⟩) (E - a) (cap - a)] W' fun e w' => e = .returned (.bool K) ∧ Below W.heap.size W w' ∧ w'.cell? ⟨sb, 0, none⟩ = some (.slice (some ⟨b, off, none⟩) n cap) ∧ w'.cell? ⟨g, 1, none⟩ = some (.int .i64 a) ∧ w'.cell? ⟨g, 2, none⟩ = some (.int .i64 E) := fun W' hW => (VA.out W' (S.below hW)).mono fun e w' H =>
        have q := hW.trans (H.2.mono hW.size)
        ⟨H.1, q, (q.cell (p := ⟨sb, 0, none⟩) (by show sb < _; omega)).trans d0, (q.cell (p := ⟨g, 1, none⟩) hgs).trans g1, (q.cell (p := ⟨g, 2, none⟩) hgs).trans g2⟩
      go_wp2
      go_region_held3 (fun w' => w'.cell? ⟨sb, 0, none⟩ = some (.slice (some ⟨b, off, none⟩) n cap) ∧ w'.cell? ⟨g, 1, none⟩ = some (.int .i64 a) ∧ w'.cell? ⟨g, 2, none⟩ = some (.int .i64 E)) (go_keep)
        (first | (go_at_call 140; refine (V _ ?_).mono ?_; (rotate_left; rintro e w3 ⟨rfl, hb3, m0, m1, m2⟩; rotate_right; (repeat' first | exact Below.refl _ _ | assumption | refine below_drewN ?_ _ | refine Below.setCell ?_ (by simp) _ | refine Below.alloc ?_ (by simp) _))))
      have S3 := S.below hb3
      have T3 := Tn.beyond T hb3
      obtain ⟨g0', g1', g2', -, -, -⟩ := utf.blk3 ((hb3.block g hgs).trans hg)
      obtain ⟨d0', d1', -, -, -, x0', x1', -, -, -⟩ := S3.cells
      clear V VA hb3 m0 m1 m2 d0 d1 d2 d3 d4 x0 x1 x2 x3 x4 g0 g1 g2 y0 y1 y2 S T
      cases K with
      | true =>
        obtain rfl : R = .ok r E := HR.out
        go_wp2
        go_ret
        refine ⟨rfl, ?_, ?_⟩
        · exact Sc.put1i S3 rfl (by omega)
        · exact Tn.put T3 _ _
      | false =>
        obtain rfl : R = .no 131 a := HR.out
        go_wp2
        exact ⟨rfl, rfl, ⟨_, _, S3⟩, T3⟩
  · obtain rfl : R = .no 130 n := by rw [← hR]; unfold point; rw [if_neg hl]
    clear hR
    have NX : Hid (∀ W, Below w.heap.size w W → Calls Tryz.prog 138 #[.slice ao n cap, .int .i64 a] W fun e w' =>
      e = .returned (.tuple #[.agg #[.int .i64 0, .int .i64 0, .int .i64 0], .bool false]) ∧ Below W.heap.size W w' ∧ w'.cell? ⟨sb, 0, none⟩ = some (.slice ao n cap) ∧ w'.cell? ⟨sb, 1, none⟩ = some (.int .i64 a)) := fun W hW => (utf.next_no ao n cap a W (.inr (by omega))).mono fun e w' H =>
        ⟨H.1, H.2, (hW.trans (H.2.mono hW.size)).cell (p := ⟨sb, 0, none⟩) hlt |>.trans c0, (hW.trans (H.2.mono hW.size)).cell (p := ⟨sb, 1, none⟩) hlt |>.trans c1⟩
    have hne : ¬ sb = w.heap.size := by omega
    have hne' : ¬ w.heap.size = sb := by omega
    have hnw := World.new_ne w _ c0
    have hnw1 := World.new_ne w _ c1
    go_enter Tryz.func133, Tryz.ntmps133
    go_wp2
    go_region_held3 (fun w' => w'.cell? ⟨sb, 0, none⟩ = some (.slice ao n cap) ∧ w'.cell? ⟨sb, 1, none⟩ = some (.int .i64 a)) (go_keep)
      (first | (go_at_call 138; refine (NX.out _ ?_).mono ?_; (rotate_left; rintro e w1 ⟨rfl, hb1, m0, m1⟩; obtain ⟨q1, q2, q3⟩ := below_eqs hb1; rotate_right; (repeat' first | exact Below.refl _ _ | assumption | refine below_drewN ?_ _ | refine Below.setCell ?_ (by simp) _ | refine Below.alloc ?_ (by simp) _))))
    · have S := (h.drew.below hb1).alloc (.cells #[.int .i64 0, .int .i64 0, .int .i64 0] 154)
      have T : Tn sb w _ := Tn.more (Tn.beyond (lin.Turns.drew (lin.Turns.refl _ w)) hb1) (.cells #[.int .i64 0, .int .i64 0, .int .i64 0] 154)
      have C := cut_any sb ao n cap _ S.cells.1
      clear q1 q2 q3 hb1 m0 m1
      go_wp2_with fail
      refine C.mono ?_
      rintro e w3 ⟨rfl, hb3⟩
      have S3 := S.below hb3
      have T3 := Tn.beyond T hb3
      go_wp2
      exact ⟨rfl, rfl, ⟨_, _, S3⟩, T3⟩
    · have S := Sc.later h (p := ⟨w.heap.size, 2, none⟩) (Sc.later h (p := ⟨w.heap.size, 1, none⟩) (Sc.later h (p := ⟨w.heap.size, 0, none⟩) ((h.alloc (.cells #[.int .i64 0, .int .i64 0, .int .i64 0] 154)).drew.below hb1) (Nat.le_refl _) (.int .i64 0)) (Nat.le_refl _) (.int .i64 0)) (Nat.le_refl _) (.int .i64 0)
      have T0 : Tn sb w w1 := Tn.beyond (lin.Turns.drew (Tn.more (lin.Turns.refl _ w) _)) hb1
      have T := Tn.new (p := ⟨w.heap.size, 2, none⟩) (Tn.new (p := ⟨w.heap.size, 1, none⟩) (Tn.new (p := ⟨w.heap.size, 0, none⟩) T0 (Nat.le_refl _) (.int .i64 0)) (Nat.le_refl _) (.int .i64 0)) (Nat.le_refl _) (.int .i64 0)
      have C := cut_any sb ao n cap _ S.cells.1
      clear q1 q2 q3 hb1 m0 m1 T0
      go_wp2_with fail
      refine C.mono ?_
      rintro e w3 ⟨rfl, hb3⟩
      have S3 := S.below hb3
      have T3 := Tn.beyond T hb3
      go_wp2
      exact ⟨rfl, rfl, ⟨_, _, S3⟩, T3⟩
end Go.Proofs.YtbdediacfckpcaaGreatDoor.tok
end

section
/- Tokens as values; classes and repetitions. -/
set_option linter.unusedVariables false
set_option linter.unusedSimpArgs false
namespace Go.Proofs.YtbdediacfckpcaaGreatDoor.tok
open Go.RowKit
open lin (BA Turns)

theorem infoTok : (Tryz.prog.info? 98).map (·.size) = some 8 := by kernel_rfl
/-- A token stored whole into a block of the call's own. -/
theorem set8 {w0 w1 : World} {sb : Nat} {ao : Option Addr} {n cap : Nat} {f : Nat → Int} {a0 st k0 a k : Nat} {tv0 tv : Value} (h0 : Sc w0 sb ao n cap f a0 st k0 tv0) (S : Sc w1 sb ao n cap f a st k tv) (T : Tn sb w0 w1) {g : Nat} {x0 x1 x2 x3 x4 x5 x6 x7 : Value} {t : TypeId}
    (G : w1.heap[g]? = some (.cells #[x0, x1, x2, x3, x4, x5, x6, x7] t (0, 0))) (hg : w0.heap.size ≤ g) (v0 v1 v2 v3 v4 v5 v6 v7 : Value) :
    ((((((((w1.setCell ⟨g, 0, none⟩ v0).setCell ⟨g, 1, none⟩ v1).setCell ⟨g, 2, none⟩ v2).setCell ⟨g, 3, none⟩ v3).setCell ⟨g, 4, none⟩ v4).setCell ⟨g, 5, none⟩ v5).setCell ⟨g, 6, none⟩ v6).setCell ⟨g, 7, none⟩ v7).heap[g]? = some (.cells #[v0, v1, v2, v3, v4, v5, v6, v7] t (0, 0)) ∧ Sc ((((((((w1.setCell ⟨g, 0, none⟩ v0).setCell ⟨g, 1, none⟩ v1).setCell ⟨g, 2, none⟩ v2).setCell ⟨g, 3, none⟩ v3).setCell ⟨g, 4, none⟩ v4).setCell ⟨g, 5, none⟩ v5).setCell ⟨g, 6, none⟩ v6).setCell ⟨g, 7, none⟩ v7) sb ao n cap f a st k tv ∧ Tn sb w0 ((((((((w1.setCell ⟨g, 0, none⟩ v0).setCell ⟨g, 1, none⟩ v1).setCell ⟨g, 2, none⟩ v2).setCell ⟨g, 3, none⟩ v3).setCell ⟨g, 4, none⟩ v4).setCell ⟨g, 5, none⟩ v5).setCell ⟨g, 6, none⟩ v6).setCell ⟨g, 7, none⟩ v7) := by
  refine ⟨?_, ?_, ?_⟩
  · have G0 : (w1.setCell ⟨g, 0, none⟩ v0).heap[g]? = some (.cells #[v0, x1, x2, x3, x4, x5, x6, x7] t (0, 0)) := by have := heap_setCell_same _ g 0 _ _ v0 G; simpa only [List.setIfInBounds_toArray, List.set_cons_zero, List.set_cons_succ] using this
    have G1 : ((w1.setCell ⟨g, 0, none⟩ v0).setCell ⟨g, 1, none⟩ v1).heap[g]? = some (.cells #[v0, v1, x2, x3, x4, x5, x6, x7] t (0, 0)) := by have := heap_setCell_same _ g 1 _ _ v1 G0; simpa only [List.setIfInBounds_toArray, List.set_cons_zero, List.set_cons_succ] using this
    have G2 : (((w1.setCell ⟨g, 0, none⟩ v0).setCell ⟨g, 1, none⟩ v1).setCell ⟨g, 2, none⟩ v2).heap[g]? = some (.cells #[v0, v1, v2, x3, x4, x5, x6, x7] t (0, 0)) := by have := heap_setCell_same _ g 2 _ _ v2 G1; simpa only [List.setIfInBounds_toArray, List.set_cons_zero, List.set_cons_succ] using this
    have G3 : ((((w1.setCell ⟨g, 0, none⟩ v0).setCell ⟨g, 1, none⟩ v1).setCell ⟨g, 2, none⟩ v2).setCell ⟨g, 3, none⟩ v3).heap[g]? = some (.cells #[v0, v1, v2, v3, x4, x5, x6, x7] t (0, 0)) := by have := heap_setCell_same _ g 3 _ _ v3 G2; simpa only [List.setIfInBounds_toArray, List.set_cons_zero, List.set_cons_succ] using this
    have G4 : (((((w1.setCell ⟨g, 0, none⟩ v0).setCell ⟨g, 1, none⟩ v1).setCell ⟨g, 2, none⟩ v2).setCell ⟨g, 3, none⟩ v3).setCell ⟨g, 4, none⟩ v4).heap[g]? = some (.cells #[v0, v1, v2, v3, v4, x5, x6, x7] t (0, 0)) := by have := heap_setCell_same _ g 4 _ _ v4 G3; simpa only [List.setIfInBounds_toArray, List.set_cons_zero, List.set_cons_succ] using this
    have G5 : ((((((w1.setCell ⟨g, 0, none⟩ v0).setCell ⟨g, 1, none⟩ v1).setCell ⟨g, 2, none⟩ v2).setCell ⟨g, 3, none⟩ v3).setCell ⟨g, 4, none⟩ v4).setCell ⟨g, 5, none⟩ v5).heap[g]? = some (.cells #[v0, v1, v2, v3, v4, v5, x6, x7] t (0, 0)) := by have := heap_setCell_same _ g 5 _ _ v5 G4; simpa only [List.setIfInBounds_toArray, List.set_cons_zero, List.set_cons_succ] using this
    have G6 : (((((((w1.setCell ⟨g, 0, none⟩ v0).setCell ⟨g, 1, none⟩ v1).setCell ⟨g, 2, none⟩ v2).setCell ⟨g, 3, none⟩ v3).setCell ⟨g, 4, none⟩ v4).setCell ⟨g, 5, none⟩ v5).setCell ⟨g, 6, none⟩ v6).heap[g]? = some (.cells #[v0, v1, v2, v3, v4, v5, v6, x7] t (0, 0)) := by have := heap_setCell_same _ g 6 _ _ v6 G5; simpa only [List.setIfInBounds_toArray, List.set_cons_zero, List.set_cons_succ] using this
    have G7 : ((((((((w1.setCell ⟨g, 0, none⟩ v0).setCell ⟨g, 1, none⟩ v1).setCell ⟨g, 2, none⟩ v2).setCell ⟨g, 3, none⟩ v3).setCell ⟨g, 4, none⟩ v4).setCell ⟨g, 5, none⟩ v5).setCell ⟨g, 6, none⟩ v6).setCell ⟨g, 7, none⟩ v7).heap[g]? = some (.cells #[v0, v1, v2, v3, v4, v5, v6, v7] t (0, 0)) := by have := heap_setCell_same _ g 7 _ _ v7 G6; simpa only [List.setIfInBounds_toArray, List.set_cons_zero, List.set_cons_succ] using this
    exact G7
  · exact Sc.later h0 (p := ⟨g, 7, none⟩) (Sc.later h0 (p := ⟨g, 6, none⟩) (Sc.later h0 (p := ⟨g, 5, none⟩) (Sc.later h0 (p := ⟨g, 4, none⟩) (Sc.later h0 (p := ⟨g, 3, none⟩) (Sc.later h0 (p := ⟨g, 2, none⟩) (Sc.later h0 (p := ⟨g, 1, none⟩) (Sc.later h0 (p := ⟨g, 0, none⟩) (S) hg v0) hg v1) hg v2) hg v3) hg v4) hg v5) hg v6) hg v7
  · exact Tn.new (p := ⟨g, 7, none⟩) (Tn.new (p := ⟨g, 6, none⟩) (Tn.new (p := ⟨g, 5, none⟩) (Tn.new (p := ⟨g, 4, none⟩) (Tn.new (p := ⟨g, 3, none⟩) (Tn.new (p := ⟨g, 2, none⟩) (Tn.new (p := ⟨g, 1, none⟩) (Tn.new (p := ⟨g, 0, none⟩) (T) hg v0) hg v1) hg v2) hg v3) hg v4) hg v5) hg v6) hg v7
theorem char_any (r : Int) (w : World) :
    Calls Tryz.prog 143 #[.int .i64 r] w fun e w' => e = .returned (char r).val ∧ Below w.heap.size w w' := by
  go_enter Tryz.func143, Tryz.ntmps143
  go_wp2
  refine bodyPost_ret (v := (char r).val) (by simp [results, Tryz.results143, go_sem]; rfl) rfl ⟨rfl, ?_⟩
  (repeat' first | exact Below.refl _ _ | assumption | refine below_drewN ?_ _ | refine Below.setCell ?_ (by simp) _ | refine Below.alloc ?_ (by simp) _)
theorem property_any (s : List UInt8) (b : Bool) (w : World) :
    Calls Tryz.prog 141 #[.string (BA s), .bool b] w fun e w' => e = .returned (prop s b).val ∧ Below w.heap.size w w' := by
  go_enter Tryz.func141, Tryz.ntmps141
  go_wp2
  refine bodyPost_ret (v := (prop s b).val) (by simp [results, Tryz.results141, go_sem]; rfl) rfl ⟨rfl, ?_⟩
  (repeat' first | exact Below.refl _ _ | assumption | refine below_drewN ?_ _ | refine Below.setCell ?_ (by simp) _ | refine Below.alloc ?_ (by simp) _)
theorem opening_any (m : Int) (w : World) :
    Calls Tryz.prog 161 #[.int .i64 m] w fun e w' => e = .returned (opening m).val ∧ Below w.heap.size w w' := by
  go_enter Tryz.func161, Tryz.ntmps161
  go_wp2
  refine bodyPost_ret (v := (opening m).val) (by simp [results, Tryz.results161, go_sem]; rfl) rfl ⟨rfl, ?_⟩
  (repeat' first | exact Below.refl _ _ | assumption | refine below_drewN ?_ _ | refine Below.setCell ?_ (by simp) _ | refine Below.alloc ?_ (by simp) _)
theorem assertion_any (m : Int) (w : World) :
    Calls Tryz.prog 154 #[.int .i64 m] w fun e w' => e = .returned (asrt m).val ∧ Below w.heap.size w w' := by
  go_enter Tryz.func154, Tryz.ntmps154
  go_wp2
  refine bodyPost_ret (v := (asrt m).val) (by simp [results, Tryz.results154, go_sem]; rfl) rfl ⟨rfl, ?_⟩
  (repeat' first | exact Below.refl _ _ | assumption | refine below_drewN ?_ _ | refine Below.setCell ?_ (by simp) _ | refine Below.alloc ?_ (by simp) _)

set_option maxHeartbeats 1000000 in
set_option maxRecDepth 100000 in
theorem class_any (sb : Nat) (ao : Option Addr) (n cap : Nat) (f : Nat → Int) (a st k : Nat) (tv : Value) (w : World) (h : Sc w sb ao n cap f a st k tv) (hk : k + 1 ≤ 1000000) :
    Calls Tryz.prog 149 #[.pointer (some ⟨sb, 0, none⟩)] w (End w sb ao n cap f st (k + 1) tv Tk.val (class_ f n a)) := by
  have hlt := h.lt
  have hne : ¬ sb = w.heap.size := by omega
  have hne' : ¬ w.heap.size = sb := by omega
  obtain ⟨c0, c1, c2, c3, c4, z0, z1, z2, z3, z4⟩ := h.cells
  have S0 := (h.put3 hk).alloc (.cells #[.int .i64 0, .int .i64 0, .int .i64 0, .int .i64 0, .string ⟨#[]⟩, .bool false, .int .i64 0, .int .i64 0] 98)
  have T0 : Tn sb w _ := Tn.more (Tn.put (lin.Turns.refl _ w) 3 (.int .i64 ((k + 1 : Nat) : Int))) (.cells #[.int .i64 0, .int .i64 0, .int .i64 0, .int .i64 0, .string ⟨#[]⟩, .bool false, .int .i64 0, .int .i64 0] 98)
  have G0 : ((w.setCell ⟨sb, 3, none⟩ (.int .i64 ((k + 1 : Nat) : Int))).alloc (.cells #[.int .i64 0, .int .i64 0, .int .i64 0, .int .i64 0, .string ⟨#[]⟩, .bool false, .int .i64 0, .int .i64 0] 98)).heap[w.heap.size]? = some (.cells #[.int .i64 0, .int .i64 0, .int .i64 0, .int .i64 0, .string ⟨#[]⟩, .bool false, .int .i64 0, .int .i64 0] 98 (0, 0)) := by
    have := World.alloc_heap_new (w.setCell ⟨sb, 3, none⟩ (.int .i64 ((k + 1 : Nat) : Int))) (.cells #[.int .i64 0, .int .i64 0, .int .i64 0, .int .i64 0, .string ⟨#[]⟩, .bool false, .int .i64 0, .int .i64 0] 98)
    simpa using this
  have e1 : ((k + 1 : Nat) : Int) = (k : Int) + 1 := by omega
  rw [e1] at S0 T0 G0
  have C := accept_any sb ao n cap f a st (k + 1) tv _ S0 94
  obtain ⟨R, hR⟩ : ∃ R, class_ f n a = R := ⟨_, rfl⟩
  rw [hR]
  have HR : Hid (R = .ok (classT (at_ f n a 94)) (if at_ f n a 94 = true then a + 1 else a)) := by unfold Hid; rw [← hR]; unfold class_; cases at_ f n a 94 <;> rfl
  clear hR
  generalize at_ f n a 94 = q at *
  generalize (if q = true then a + 1 else a) = a' at *
  obtain rfl := HR.out
  clear HR
  go_enter Tryz.func149, Tryz.ntmps149
  go_wp2_with fail
  refine C.mono ?_
  rintro e w1 ⟨rfl, S1, T1⟩
  have G1 := Tn.blk T1 G0 (Ne.symm hne)
  have T2 := T0.trans T1
  obtain ⟨⟨k0, k1, k2, k3, k4, k5, k6, k7⟩, ⟨f0, f1, f2, f3, f4, f5, f6, f7⟩⟩ := blk8 G1
  clear C T0 T1 G0 S0
  go_wp2
  obtain ⟨G3, S3, T3⟩ := set8 h S1 T2 G1 (Nat.le_refl _) (.int .i64 11) (.int .i64 0) (.int .i64 0) (.int .i64 0) (.string ⟨#[]⟩) (.bool q) (.int .i64 0) (.int .i64 0)
  exact bodyPost_ret (results_cell_row Tryz.results149 _ _ w.heap.size _ _ _ _ rfl G3 Tryz.underlying98 rfl infoTok) rfl ⟨rfl, S3, T3⟩
end Go.Proofs.YtbdediacfckpcaaGreatDoor.tok
end

section
/- Openings and repetitions. -/
set_option linter.unusedVariables false
set_option linter.unusedSimpArgs false
namespace Go.Proofs.YtbdediacfckpcaaGreatDoor.tok
open Go.RowKit
open lin (BA Turns)

set_option maxHeartbeats 8000000 in
set_option maxRecDepth 100000 in
theorem edge_any (sb : Nat) (ao : Option Addr) (n cap : Nat) (f : Nat → Int) (a st k : Nat) (tv : Value) (w : World) (h : Sc w sb ao n cap f a st k tv) (x y z : Int) :
    Calls Tryz.prog 159 #[.pointer (some ⟨sb, 0, none⟩), .int .i64 x, .int .i64 y, .int .i64 z] w (End w sb ao n cap f st k tv Tk.val (edge f n st x y z a)) := by
  have hlt := h.lt
  have hgn : w.heap.size ≠ sb := by omega
  have hgn' : ¬ w.heap.size = sb := by omega
  have hgn2 : ¬ sb = w.heap.size := by omega
  have S0 := h.alloc (.cells #[.int .i64 0, .int .i64 0, .int .i64 0, .int .i64 0, .string ⟨#[]⟩, .bool false, .int .i64 0, .int .i64 0] 98)
  have T0 : Tn sb w _ := Tn.more (lin.Turns.refl _ w) (.cells #[.int .i64 0, .int .i64 0, .int .i64 0, .int .i64 0, .string ⟨#[]⟩, .bool false, .int .i64 0, .int .i64 0] 98)
  have G0 : (w.alloc (.cells #[.int .i64 0, .int .i64 0, .int .i64 0, .int .i64 0, .string ⟨#[]⟩, .bool false, .int .i64 0, .int .i64 0] 98)).heap[w.heap.size]? = some (.cells #[.int .i64 0, .int .i64 0, .int .i64 0, .int .i64 0, .string ⟨#[]⟩, .bool false, .int .i64 0, .int .i64 0] 98 (0, 0)) := World.alloc_heap_new _ _
  obtain ⟨R, hR⟩ : ∃ R, edge f n st x y z a = R := ⟨_, rfl⟩
  rw [hR]
  have HR : Hid (edge f n st x y z a = R) := hR
  clear hR
  go_enter Tryz.func159, Tryz.ntmps159
  have C := accept_any sb ao n cap f (a) st k tv _ S0 123
  obtain ⟨b, hq⟩ : ∃ b, at_ f n (a) 123 = b := ⟨_, rfl⟩
  rw [hq] at C
  have Q01 : Hid (at_ f n (a) 123 = b) := hq
  clear hq
  go_wp2_with fail
  refine C.mono ?_
  rintro e w1 ⟨rfl, S1, T⟩
  have T1 := T0.trans T
  have G1 := Tn.blk T G0 hgn
  clear C T S0 T0 G0
  cases b with
  | true =>
    rw [if_pos rfl] at S1
    have C := octet_any sb ao n cap f (a + 1) st k tv _ S1
    obtain ⟨o, ho⟩ : ∃ o, octet f n (a + 1) = o := ⟨_, rfl⟩
    rw [ho] at C
    have O12 : Hid (octet f n (a + 1) = o) := ho
    clear ho
    go_wp2_with fail
    refine C.mono ?_
    intro e w2 H
    clear C
    cases o with
    | no q p =>
      obtain ⟨rfl, ⟨a', k', S'⟩, T'⟩ := H
      obtain rfl : R = .no q p := by rw [← HR.out]; simp [edge, bind_ok, bind_no, Q01.out, O12.out]
      have T'' := T1.trans T'
      go_wp2
      exact ⟨rfl, rfl, ⟨_, _, S'⟩, T''⟩
    | ok c a1 =>
      obtain ⟨rfl, S2, T'⟩ := H
      have T2 := T1.trans T'
      have G2 := Tn.blk T' G1 hgn
      clear T' S1 T1 G1
      unfold iv
      rcases (show c = 103 ∨ c = 119 ∨ (¬ c = 103 ∧ ¬ c = 119) from by omega) with rfl | rfl | ⟨n1, n2⟩
      ·
        have C := want_any sb ao n cap f a1 st k tv _ S2 125
        obtain ⟨o, ho⟩ : ∃ o, want f n st 125 a1 = o := ⟨_, rfl⟩
        rw [ho] at C
        have O23 : Hid (want f n st 125 a1 = o) := ho
        clear ho
        go_wp2_with fail
        refine C.mono ?_
        intro e w3 H
        clear C
        cases o with
        | no q p =>
          obtain ⟨rfl, ⟨a', k', S'⟩, T'⟩ := H
          obtain rfl : R = .no q p := by rw [← HR.out]; simp [edge, bind_ok, bind_no, Q01.out, O12.out, O23.out]
          have T'' := T2.trans T'
          go_wp2
          exact ⟨rfl, rfl, ⟨_, _, S'⟩, T''⟩
        | ok u a2 =>
          obtain ⟨rfl, S3, T'⟩ := H
          have T3 := T2.trans T'
          have G3 := Tn.blk T' G2 hgn
          clear T' S2 T2 G2
          unfold uv
          obtain rfl : R = .ok (asrt y) (a2) := by rw [← HR.out]; simp [edge, bind_ok, bind_no, Q01.out, O12.out, O23.out]
          clear HR
          have C := assertion_any y w3
          go_wp2_with fail
          refine C.mono ?_
          rintro e w4 ⟨rfl, hb⟩
          clear C
          have S4 := S3.below hb
          have T4 := Tn.beyond T3 hb
          have G4 := (hb.block _ (Array.getElem?_eq_some_iff.1 G3).1).trans G3
          clear hb S3 T3 G3
          rw [show (asrt y).val = .agg #[.int .i64 7, .int .i64 y, .int .i64 (0), .int .i64 (0), .string ⟨#[]⟩, .bool false, .int .i64 (0), .int .i64 (0)] from rfl]
          obtain ⟨⟨k0, k1, k2, k3, k4, k5, k6, k7⟩, ⟨f0, f1, f2, f3, f4, f5, f6, f7⟩⟩ := blk8 G4
          go_wp2
          obtain ⟨GF, SF, TF⟩ := set8 h S4 T4 G4 (Nat.le_refl _) (.int .i64 7) (.int .i64 y) (.int .i64 (0)) (.int .i64 (0)) (.string ⟨#[]⟩) (.bool false) (.int .i64 (0)) (.int .i64 (0))
          exact bodyPost_ret (results_cell_row Tryz.results159 _ _ w.heap.size _ _ _ _ rfl GF Tryz.underlying98 rfl infoTok) rfl ⟨rfl, SF, TF⟩
      ·
        have C := want_any sb ao n cap f a1 st k tv _ S2 125
        obtain ⟨o, ho⟩ : ∃ o, want f n st 125 a1 = o := ⟨_, rfl⟩
        rw [ho] at C
        have O23 : Hid (want f n st 125 a1 = o) := ho
        clear ho
        go_wp2_with fail
        refine C.mono ?_
        intro e w3 H
        clear C
        cases o with
        | no q p =>
          obtain ⟨rfl, ⟨a', k', S'⟩, T'⟩ := H
          obtain rfl : R = .no q p := by rw [← HR.out]; simp [edge, bind_ok, bind_no, Q01.out, O12.out, O23.out]
          have T'' := T2.trans T'
          go_wp2
          exact ⟨rfl, rfl, ⟨_, _, S'⟩, T''⟩
        | ok u a2 =>
          obtain ⟨rfl, S3, T'⟩ := H
          have T3 := T2.trans T'
          have G3 := Tn.blk T' G2 hgn
          clear T' S2 T2 G2
          unfold uv
          obtain rfl : R = .ok (asrt z) (a2) := by rw [← HR.out]; simp [edge, bind_ok, bind_no, Q01.out, O12.out, O23.out]
          clear HR
          have C := assertion_any z w3
          go_wp2_with fail
          refine C.mono ?_
          rintro e w4 ⟨rfl, hb⟩
          clear C
          have S4 := S3.below hb
          have T4 := Tn.beyond T3 hb
          have G4 := (hb.block _ (Array.getElem?_eq_some_iff.1 G3).1).trans G3
          clear hb S3 T3 G3
          rw [show (asrt z).val = .agg #[.int .i64 7, .int .i64 z, .int .i64 (0), .int .i64 (0), .string ⟨#[]⟩, .bool false, .int .i64 (0), .int .i64 (0)] from rfl]
          obtain ⟨⟨k0, k1, k2, k3, k4, k5, k6, k7⟩, ⟨f0, f1, f2, f3, f4, f5, f6, f7⟩⟩ := blk8 G4
          go_wp2
          obtain ⟨GF, SF, TF⟩ := set8 h S4 T4 G4 (Nat.le_refl _) (.int .i64 7) (.int .i64 z) (.int .i64 (0)) (.int .i64 (0)) (.string ⟨#[]⟩) (.bool false) (.int .i64 (0)) (.int .i64 (0))
          exact bodyPost_ret (results_cell_row Tryz.results159 _ _ w.heap.size _ _ _ _ rfl GF Tryz.underlying98 rfl infoTok) rfl ⟨rfl, SF, TF⟩
      ·
        have m1 : (c == 103) = false := by simp [n1]
        have m2 : (c == 119) = false := by simp [n2]
        obtain rfl : R = nope f st := by rw [← HR.out]; simp [edge, bind_ok, bind_no, Q01.out, O12.out, n1, n2]
        have C := none_any sb ao n cap f (a1) st k tv _ S2
        clear HR
        go_wp2_with fail
        refine C.mono ?_
        rintro e w' ⟨rfl, hb⟩
        have S' := S2.below hb
        have T' := Tn.beyond T2 hb
        go_wp2
        exact ⟨rfl, rfl, ⟨_, _, S'⟩, T'⟩
  | false =>
    rw [if_neg (by decide)] at S1
    obtain rfl : R = .ok (asrt x) (a) := by rw [← HR.out]; simp [edge, bind_ok, bind_no, Q01.out]
    clear HR
    have C := assertion_any x w1
    go_wp2_with fail
    refine C.mono ?_
    rintro e w2 ⟨rfl, hb⟩
    clear C
    have S2 := S1.below hb
    have T2 := Tn.beyond T1 hb
    have G2 := (hb.block _ (Array.getElem?_eq_some_iff.1 G1).1).trans G1
    clear hb S1 T1 G1
    rw [show (asrt x).val = .agg #[.int .i64 7, .int .i64 x, .int .i64 (0), .int .i64 (0), .string ⟨#[]⟩, .bool false, .int .i64 (0), .int .i64 (0)] from rfl]
    obtain ⟨⟨k0, k1, k2, k3, k4, k5, k6, k7⟩, ⟨f0, f1, f2, f3, f4, f5, f6, f7⟩⟩ := blk8 G2
    go_wp2
    obtain ⟨GF, SF, TF⟩ := set8 h S2 T2 G2 (Nat.le_refl _) (.int .i64 7) (.int .i64 x) (.int .i64 (0)) (.int .i64 (0)) (.string ⟨#[]⟩) (.bool false) (.int .i64 (0)) (.int .i64 (0))
    exact bodyPost_ret (results_cell_row Tryz.results159 _ _ w.heap.size _ _ _ _ rfl GF Tryz.underlying98 rfl infoTok) rfl ⟨rfl, SF, TF⟩
set_option maxHeartbeats 8000000 in
set_option maxRecDepth 100000 in
theorem repeat_any (sb : Nat) (ao : Option Addr) (n cap : Nat) (f : Nat → Int) (a st k : Nat) (tv : Value) (w : World) (h : Sc w sb ao n cap f a st k tv) (x y : Int) :
    Calls Tryz.prog 152 #[.pointer (some ⟨sb, 0, none⟩), .int .i64 x, .int .i64 y] w (End w sb ao n cap f st k tv Tk.val (rep f n x y a)) := by
  have hlt := h.lt
  have hgn : w.heap.size ≠ sb := by omega
  have hln : w.heap.size + 1 ≠ sb := by omega
  have S0 := (h.alloc (.cells #[.int .i64 0, .int .i64 0, .int .i64 0, .int .i64 0, .string ⟨#[]⟩, .bool false, .int .i64 0, .int .i64 0] 98)).alloc (.cells #[.int .i64 6, .int .i64 0, .int .i64 x, .int .i64 y, .string ⟨#[]⟩, .bool false, .int .i64 0, .int .i64 0] 98)
  have T0 : Tn sb w _ := Tn.more (Tn.more (lin.Turns.refl _ w) (.cells #[.int .i64 0, .int .i64 0, .int .i64 0, .int .i64 0, .string ⟨#[]⟩, .bool false, .int .i64 0, .int .i64 0] 98)) (.cells #[.int .i64 6, .int .i64 0, .int .i64 x, .int .i64 y, .string ⟨#[]⟩, .bool false, .int .i64 0, .int .i64 0] 98)
  have G0 : ((w.alloc (.cells #[.int .i64 0, .int .i64 0, .int .i64 0, .int .i64 0, .string ⟨#[]⟩, .bool false, .int .i64 0, .int .i64 0] 98)).alloc (.cells #[.int .i64 6, .int .i64 0, .int .i64 x, .int .i64 y, .string ⟨#[]⟩, .bool false, .int .i64 0, .int .i64 0] 98)).heap[w.heap.size]? = some (.cells #[.int .i64 0, .int .i64 0, .int .i64 0, .int .i64 0, .string ⟨#[]⟩, .bool false, .int .i64 0, .int .i64 0] 98 (0, 0)) := (Below.heap_alloc _ _ _ (by simp)).trans (World.alloc_heap_new _ _)
  have L0 : ((w.alloc (.cells #[.int .i64 0, .int .i64 0, .int .i64 0, .int .i64 0, .string ⟨#[]⟩, .bool false, .int .i64 0, .int .i64 0] 98)).alloc (.cells #[.int .i64 6, .int .i64 0, .int .i64 x, .int .i64 y, .string ⟨#[]⟩, .bool false, .int .i64 0, .int .i64 0] 98)).heap[w.heap.size + 1]? = some (.cells #[.int .i64 6, .int .i64 0, .int .i64 x, .int .i64 y, .string ⟨#[]⟩, .bool false, .int .i64 0, .int .i64 0] 98 (0, 0)) := by
    have := World.alloc_heap_new (w.alloc (.cells #[.int .i64 0, .int .i64 0, .int .i64 0, .int .i64 0, .string ⟨#[]⟩, .bool false, .int .i64 0, .int .i64 0] 98)) (.cells #[.int .i64 6, .int .i64 0, .int .i64 x, .int .i64 y, .string ⟨#[]⟩, .bool false, .int .i64 0, .int .i64 0] 98)
    simpa using this
  obtain ⟨R, hR⟩ : ∃ R, rep f n x y a = R := ⟨_, rfl⟩
  rw [hR]
  have HR : Hid (rep f n x y a = R) := hR
  clear hR
  go_enter Tryz.func152, Tryz.ntmps152
  have C := accept_any sb ao n cap f (a) st k tv _ S0 63
  obtain ⟨b, hq⟩ : ∃ b, at_ f n (a) 63 = b := ⟨_, rfl⟩
  rw [hq] at C
  have Q01 : Hid (at_ f n (a) 63 = b) := hq
  clear hq
  go_wp2_with fail
  refine C.mono ?_
  rintro e w1 ⟨rfl, S1, T⟩
  have T1 := T0.trans T
  have G1 := Tn.blk T G0 hgn
  have L1 := Tn.blk T L0 hln
  clear C T S0 T0 G0
  cases b with
  | true =>
    rw [if_pos rfl] at S1
    obtain rfl : R = .ok ⟨6, 1, x, y, [], false, 0, 0⟩ (a + 1) := by rw [← HR.out]; simp [rep, bind_ok, bind_no, Q01.out]
    clear HR
    obtain ⟨⟨k0, k1, k2, k3, k4, k5, k6, k7⟩, ⟨f0, f1, f2, f3, f4, f5, f6, f7⟩⟩ := blk8 G1
    obtain ⟨⟨l0, l1, l2, l3, l4, l5, l6, l7⟩, ⟨r0, r1, r2, r3, r4, r5, r6, r7⟩⟩ := blk8 L1
    go_wp2
    have SM := Sc.later h S1 (p := ⟨w.heap.size + 1, 1, none⟩) (by simp) (.int .i64 1)
    have TM := Tn.new T1 (p := ⟨w.heap.size + 1, 1, none⟩) (by simp) (.int .i64 1)
    have GM := (heap_setCell_other _ ⟨w.heap.size + 1, 1, none⟩ w.heap.size (.int .i64 1) (by simp)).trans G1
    obtain ⟨GF, SF, TF⟩ := set8 h SM TM GM (Nat.le_refl _) (.int .i64 6) (.int .i64 1) (.int .i64 x) (.int .i64 y) (.string ⟨#[]⟩) (.bool false) (.int .i64 (0)) (.int .i64 (0))
    exact bodyPost_ret (results_cell_row Tryz.results152 _ _ w.heap.size _ _ _ _ rfl GF Tryz.underlying98 rfl infoTok) rfl ⟨rfl, SF, TF⟩
  | false =>
    rw [if_neg (by decide)] at S1
    have C := accept_any sb ao n cap f (a) st k tv _ S1 43
    obtain ⟨b, hq⟩ : ∃ b, at_ f n (a) 43 = b := ⟨_, rfl⟩
    rw [hq] at C
    have Q12 : Hid (at_ f n (a) 43 = b) := hq
    clear hq
    go_wp2_with fail
    refine C.mono ?_
    rintro e w2 ⟨rfl, S2, T⟩
    have T2 := T1.trans T
    have G2 := Tn.blk T G1 hgn
    have L2 := Tn.blk T L1 hln
    clear C T S1 T1 G1
    cases b with
    | true =>
      rw [if_pos rfl] at S2
      obtain rfl : R = .ok ⟨6, 2, x, y, [], false, 0, 0⟩ (a + 1) := by rw [← HR.out]; simp [rep, bind_ok, bind_no, Q01.out, Q12.out]
      clear HR
      obtain ⟨⟨k0, k1, k2, k3, k4, k5, k6, k7⟩, ⟨f0, f1, f2, f3, f4, f5, f6, f7⟩⟩ := blk8 G2
      obtain ⟨⟨l0, l1, l2, l3, l4, l5, l6, l7⟩, ⟨r0, r1, r2, r3, r4, r5, r6, r7⟩⟩ := blk8 L2
      go_wp2
      have SM := Sc.later h S2 (p := ⟨w.heap.size + 1, 1, none⟩) (by simp) (.int .i64 2)
      have TM := Tn.new T2 (p := ⟨w.heap.size + 1, 1, none⟩) (by simp) (.int .i64 2)
      have GM := (heap_setCell_other _ ⟨w.heap.size + 1, 1, none⟩ w.heap.size (.int .i64 2) (by simp)).trans G2
      obtain ⟨GF, SF, TF⟩ := set8 h SM TM GM (Nat.le_refl _) (.int .i64 6) (.int .i64 2) (.int .i64 x) (.int .i64 y) (.string ⟨#[]⟩) (.bool false) (.int .i64 (0)) (.int .i64 (0))
      exact bodyPost_ret (results_cell_row Tryz.results152 _ _ w.heap.size _ _ _ _ rfl GF Tryz.underlying98 rfl infoTok) rfl ⟨rfl, SF, TF⟩
    | false =>
      rw [if_neg (by decide)] at S2
      obtain rfl : R = .ok ⟨6, 0, x, y, [], false, 0, 0⟩ (a) := by rw [← HR.out]; simp [rep, bind_ok, bind_no, Q01.out, Q12.out]
      clear HR
      obtain ⟨⟨k0, k1, k2, k3, k4, k5, k6, k7⟩, ⟨f0, f1, f2, f3, f4, f5, f6, f7⟩⟩ := blk8 G2
      obtain ⟨⟨l0, l1, l2, l3, l4, l5, l6, l7⟩, ⟨r0, r1, r2, r3, r4, r5, r6, r7⟩⟩ := blk8 L2
      go_wp2
      obtain ⟨GF, SF, TF⟩ := set8 h S2 T2 G2 (Nat.le_refl _) (.int .i64 6) (.int .i64 0) (.int .i64 x) (.int .i64 y) (.string ⟨#[]⟩) (.bool false) (.int .i64 (0)) (.int .i64 (0))
      exact bodyPost_ret (results_cell_row Tryz.results152 _ _ w.heap.size _ _ _ _ rfl GF Tryz.underlying98 rfl infoTok) rfl ⟨rfl, SF, TF⟩
end Go.Proofs.YtbdediacfckpcaaGreatDoor.tok
end
