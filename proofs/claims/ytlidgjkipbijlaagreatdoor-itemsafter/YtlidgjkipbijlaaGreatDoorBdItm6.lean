/- Texts that the proof leans on, one behind the other. -/
import Derived.Test.YtlidgjkipbijlaaGreatDoorBdItm3
import Derived.OrdersHeld
import Derived.Deep.RegionHeld3

section
/- Span of a subject. -/
set_option linter.unusedVariables false
set_option linter.unusedSimpArgs false
namespace Go.Proofs.YtlidgjkipbijlaaGreatDoor.itm
open Go.RowKit Go.Shelf nrm prp
open Go.Proofs.YtlidgjkipbijlaaGreatDoor.utf (IsB lst)

theorem row2_set {w : World} {g : Nat} {t : TypeId} {a b : Value} (h : w.heap[g]? = some (.cells #[a, b] t)) (x y : Value) :
    ((w.setCell ⟨g, 0, none⟩ x).setCell ⟨g, 1, none⟩ y).heap[g]? = some (.cells #[x, y] t) := by
  have h1 := heap_setCell_same w g 0 _ t x h
  have h2 := heap_setCell_same _ g 1 _ t y h1
  simpa using h2
theorem infoSpan : (Tryz.prog.info? 41).map (·.size) = some 2 := by kernel_rfl
/-- A span as a value. -/
def spV (p : Int × Int) : Value := .agg #[.int .i64 p.1, .int .i64 p.2]
set_option maxHeartbeats 2000000 in
set_option maxRecDepth 1000000 in
theorem span_out (x base n : Nat) (f : Nat → Int) (l : List nfd.I) (a b : Int) (w : World) (h : TxtIs w base x n f l) (hout : a < 0 ∨ b < a ∨ (l.length : Int) < b) :
    Calls Tryz.prog 17 #[.pointer (some ⟨x, 0, none⟩), .int .i64 a, .int .i64 b] w fun e w' => e = .returned (.agg #[.int .i64 (-1), .int .i64 (-1)]) ∧ Below w.heap.size w w' := by
  have BA0 : Below w.heap.size w (w.alloc (.cells #[.int .i64 0, .int .i64 0] 41)) := (Below.refl _ w).alloc (Nat.le_refl _) _
  have h' := h.below BA0
  have C := made_t x base n f l _ h'
  obtain ⟨bv, iv, lv, h1, h2, h3, h4⟩ := h'.all
  obtain ⟨ia, ic, rfl⟩ := lin.own_slice h3
  have nb := World.alloc_heap_new w (.cells #[.int .i64 0, .int .i64 0] 41)
  have HBA : Hid (Below w.heap.size w (w.alloc (.cells #[.int .i64 0, .int .i64 0] 41))) := BA0
  generalize hW0 : w.alloc (.cells #[.int .i64 0, .int .i64 0] 41) = W0 at *
  have c1 := cell_of_row W0 x 1 _ _ _ h1
  have r0 := cell_of_row W0 w.heap.size 0 _ _ _ nb
  have r1 := cell_of_row W0 w.heap.size 1 _ _ _ nb
  have q0 := frozen_of_row W0 w.heap.size 0 _ _ nb
  have q1 := frozen_of_row W0 w.heap.size 1 _ _ nb
  simp at c1 r0 r1
  have HFIN : Hid (Below w.heap.size w ((W0.setCell ⟨w.heap.size, 0, none⟩ (.int .i64 (-1))).setCell ⟨w.heap.size, 1, none⟩ (.int .i64 (-1)))) := (BA0.setCell (Nat.le_refl _) _).setCell (Nat.le_refl _) _
  have HR : Hid (W0.heap[w.heap.size]? = some (.cells #[.int .i64 0, .int .i64 0] 41 (0, 0))) := nb
  clear h h' h1 h2 h3 h4 BA0 nb
  generalize l.length = N at *
  by_cases k1 : a < 0
  · clear hout
    go_enter Tryz.func17, Tryz.ntmps17
    go_wp2_with fail
    refine C.mono ?_
    rintro e w1 ⟨rfl, hw⟩
    rw [hw]
    clear C hw w1
    go_wp2
    try rw [Exit.noGoto_ret]
    refine bodyPost_ret (results_cell_row Tryz.results17 _ _ w.heap.size _ _ _ _ rfl (row2_set HR.out _ _) Tryz.underlying41 rfl infoSpan) rfl ?_
    exact ⟨rfl, HFIN.out⟩
  by_cases k2 : b < a
  · clear hout
    go_enter Tryz.func17, Tryz.ntmps17
    go_wp2_with fail
    refine C.mono ?_
    rintro e w1 ⟨rfl, hw⟩
    rw [hw]
    clear C hw w1
    go_wp2
    try rw [Exit.noGoto_ret]
    refine bodyPost_ret (results_cell_row Tryz.results17 _ _ w.heap.size _ _ _ _ rfl (row2_set HR.out _ _) Tryz.underlying41 rfl infoSpan) rfl ?_
    exact ⟨rfl, HFIN.out⟩
  · have k3 : (N : Int) < b := by omega
    clear hout
    go_enter Tryz.func17, Tryz.ntmps17
    go_wp2_with fail
    refine C.mono ?_
    rintro e w1 ⟨rfl, hw⟩
    rw [hw]
    clear C hw w1
    go_wp2
    try rw [Exit.noGoto_ret]
    refine bodyPost_ret (results_cell_row Tryz.results17 _ _ w.heap.size _ _ _ _ rfl (row2_set HR.out _ _) Tryz.underlying41 rfl infoSpan) rfl ?_
    exact ⟨rfl, HFIN.out⟩
set_option maxHeartbeats 2000000 in
set_option maxRecDepth 1000000 in
theorem span_none (x base n : Nat) (f : Nat → Int) (l : List nfd.I) (a : Nat) (w : World) (h : TxtIs w base x n f l) (ha : a ≤ l.length) :
    Calls Tryz.prog 17 #[.pointer (some ⟨x, 0, none⟩), .int .i64 (a : Int), .int .i64 (a : Int)] w fun e w' => e = .returned (.agg #[.int .i64 (lsH n (l.drop a)), .int .i64 (lsH n (l.drop a))]) ∧ Below w.heap.size w w' := by
  have BA0 : Below w.heap.size w (w.alloc (.cells #[.int .i64 0, .int .i64 0] 41)) := (Below.refl _ w).alloc (Nat.le_refl _) _
  have h' := h.below BA0
  have C := made_t x base n f l _ h'
  obtain ⟨bv, iv, lv, h1, h2, h3, h4⟩ := h'.all
  obtain ⟨ia, ic, rfl⟩ := lin.own_slice h3
  have hlen : (leastL (n : Int) l).length = l.length + 1 := least_len _ _
  have hiv := IOwn.iv h4
  have h4' := h4
  unfold IOwn at h4'
  rw [hlen] at h4'
  obtain ⟨g, cap, rfl, hcap, hmax⟩ := own_some h4' (by omega)
  have hcell : (w.alloc (.cells #[.int .i64 0, .int .i64 0] 41)).cell? ⟨g, a, none⟩ = some (.int .i64 (lsH n (l.drop a))) := by
    obtain ⟨_, _, ev, hc⟩ := hiv
    injection ev with e1 e2 e3
    obtain ⟨b, o, e4, hc⟩ := hc (by rw [hlen]; omega)
    rw [← e1] at e4
    injection e4 with e4
    injection e4 with e5 e6
    subst e5 e6
    have := hc a (by rw [hlen]; omega)
    rw [Nat.zero_add, List.getD_eq_getElem?_getD, least_at _ _ _ ha] at this
    exact this
  have nb := World.alloc_heap_new w (.cells #[.int .i64 0, .int .i64 0] 41)
  have HBA : Hid (Below w.heap.size w (w.alloc (.cells #[.int .i64 0, .int .i64 0] 41))) := BA0
  have hxw : x < (w.alloc (.cells #[.int .i64 0, .int .i64 0] 41)).heap.size := (Array.getElem?_eq_some_iff.1 h1).1
  obtain ⟨bv0, iv0, lv0, h10, _, _, h40⟩ := h.all
  have hxw0 : x < w.heap.size := (Array.getElem?_eq_some_iff.1 h10).1
  have hgw : g < w.heap.size := by
    have e := h1
    rw [BA0.block x hxw0, h10] at e
    injection e with e
    injection e with e
    have e3 := congrArg (fun c => c[2]?) e
    simp at e3
    subst e3
    exact (h40.lt g rfl).2
  generalize hW0 : w.alloc (.cells #[.int .i64 0, .int .i64 0] 41) = W0 at *
  have c1 := cell_of_row W0 x 1 _ _ _ h1
  have c2 := cell_of_row W0 x 2 _ _ _ h1
  simp at c1 c2
  have HFIN : Hid (∀ u v, Below w.heap.size w ((W0.drew.setCell ⟨w.heap.size, 0, none⟩ u).setCell ⟨w.heap.size, 1, none⟩ v)) := fun u v => (BA0.drew.setCell (Nat.le_refl _) _).setCell (Nat.le_refl _) _
  have HR : Hid (W0.drew.heap[w.heap.size]? = some (.cells #[.int .i64 0, .int .i64 0] 41 (0, 0))) := nb
  have HSS : Hid (∀ u v, ((W0.drew.setCell ⟨w.heap.size, 0, none⟩ u).setCell ⟨w.heap.size, 1, none⟩ v).cell? ⟨x, 2, none⟩ = some (.slice (some ⟨g, 0, none⟩) (l.length + 1) cap) ∧ ((W0.drew.setCell ⟨w.heap.size, 0, none⟩ u).setCell ⟨w.heap.size, 1, none⟩ v).cell? ⟨g, a, none⟩ = some (.int .i64 (lsH n (l.drop a)))) := fun u v => by
    have e : ∀ k j, k < w.heap.size → ((W0.drew.setCell ⟨w.heap.size, 0, none⟩ u).setCell ⟨w.heap.size, 1, none⟩ v).cell? ⟨k, j, none⟩ = W0.cell? ⟨k, j, none⟩ := fun k j hk => by
      unfold World.cell?
      rw [heap_setCell_other _ ⟨w.heap.size, 1, none⟩ k _ (by simp only; omega), heap_setCell_other _ ⟨w.heap.size, 0, none⟩ k _ (by simp only; omega)]
      rfl
    exact ⟨(e x 2 hxw0).trans c2, (e g a hgw).trans hcell⟩
  have k1 : ¬ (a : Int) < 0 := by omega
  have k2 : ¬ (l.length : Int) < (a : Int) := by omega
  have k3 : (0 : Int) ≤ (a : Int) := by omega
  have k4 : (a : Int) < (l.length : Int) + 1 := by omega
  clear h h' h1 h2 h3 h4 h4' BA0 nb hlen hiv h10 h40 hxw hxw0 hgw
  generalize lsH n (l.drop a) = m at *
  generalize l.length = N at *
  · go_enter Tryz.func17, Tryz.ntmps17
    go_wp2_with fail
    refine C.mono ?_
    rintro e w1 ⟨rfl, hw⟩
    rw [hw]
    clear C hw w1
    go_wp2
    try rw [hW0]
    refine wp_region_noPanic ?_
    refine wp_region_held_drew (S := fun w' => w'.cell? ⟨x, 2, none⟩ = some (.slice (some ⟨g, 0, none⟩) (N + 1) cap) ∧ w'.cell? ⟨g, a, none⟩ = some (.int .i64 m)) (by kernel_rfl) ⟨c2, hcell⟩ (fun hHeld => ?_)
    clear hW0
    generalize W0.drew = w1 at *
    refine wpAnyH_take (i := 0) (v := ?_) rfl (by kernel_rfl) (by kernel_rfl) (by kernel_rfl) (fun _ _ _ h => h) (Or.inl ⟨by rfl, ?_⟩) (by assumption) ?_
    rotate_left
    · (intro w' hSw; (try dsimp only at hSw); go_simp; try with_reducible rfl)
    try simp only [Act.put, List.getElem_toArray, List.getElem_cons_zero, List.getElem_cons_succ, List.setIfInBounds_toArray, List.set_cons_zero, List.set_cons_succ]
    refine wpAnyH_take (i := 1) (v := ?_) rfl (by kernel_rfl) (by kernel_rfl) (by kernel_rfl) (fun _ _ _ h => h) (Or.inl ⟨by rfl, ?_⟩) (by assumption) ?_
    rotate_left
    · (intro w' hSw; (try dsimp only at hSw); go_simp; try with_reducible rfl)
    try simp only [Act.put, List.getElem_toArray, List.getElem_cons_zero, List.getElem_cons_succ, List.setIfInBounds_toArray, List.set_cons_zero, List.set_cons_succ]
    refine wpAnyH_take (i := 2) (v := ?_) rfl (by kernel_rfl) (by kernel_rfl) (by kernel_rfl) (fun _ _ _ h => h) (Or.inl ⟨by rfl, ?_⟩) (by assumption) ?_
    rotate_left
    · (intro w' hSw; (try dsimp only at hSw); go_simp; try with_reducible rfl)
    try simp only [Act.put, List.getElem_toArray, List.getElem_cons_zero, List.getElem_cons_succ, List.setIfInBounds_toArray, List.set_cons_zero, List.set_cons_succ]
    refine wpAnyH_take (i := 3) (v := ?_) rfl (by kernel_rfl) (by kernel_rfl) (by kernel_rfl) (fun _ _ _ h => h) (Or.inl ⟨by rfl, ?_⟩) (by assumption) ?_
    rotate_left
    · (intro w' hSw; (try dsimp only at hSw); go_simp; try with_reducible rfl)
    try simp only [Act.put, List.getElem_toArray, List.getElem_cons_zero, List.getElem_cons_succ, List.setIfInBounds_toArray, List.set_cons_zero, List.set_cons_succ]
    refine wpAnyH_take (i := 4) (v := ?_) rfl (by kernel_rfl) (by kernel_rfl) (by kernel_rfl) (fun _ _ _ h => h) (Or.inl ⟨by rfl, ?_⟩) (by assumption) ?_
    rotate_left
    · (intro w' hSw; (try dsimp only at hSw); go_simp; try with_reducible rfl)
    try simp only [Act.put, List.getElem_toArray, List.getElem_cons_zero, List.getElem_cons_succ, List.setIfInBounds_toArray, List.set_cons_zero, List.set_cons_succ]
    refine wpAnyH_take (i := 5) (v := ?_) rfl (by kernel_rfl) (by kernel_rfl) (by kernel_rfl) (fun _ _ _ h => h) (Or.inl ⟨by rfl, ?_⟩) (by assumption) ?_
    rotate_left
    · (intro w' hSw; (try dsimp only at hSw); go_simp; try with_reducible rfl)
    try simp only [Act.put, List.getElem_toArray, List.getElem_cons_zero, List.getElem_cons_succ, List.setIfInBounds_toArray, List.set_cons_zero, List.set_cons_succ]
    refine wpAnyH_take (i := 6) (v := ?_) rfl (by kernel_rfl) (by kernel_rfl) (by kernel_rfl) (fun _ _ _ h => h) (Or.inl ⟨by rfl, ?_⟩) (by assumption) ?_
    rotate_left
    · (intro w' hSw; (try dsimp only at hSw); go_simp; try with_reducible rfl)
    try simp only [Act.put, List.getElem_toArray, List.getElem_cons_zero, List.getElem_cons_succ, List.setIfInBounds_toArray, List.set_cons_zero, List.set_cons_succ]
    refine wpAnyH_take (i := 7) (v := ?_) rfl (by kernel_rfl) (by kernel_rfl) (by kernel_rfl) (fun _ _ _ h => h) (Or.inl ⟨by rfl, ?_⟩) (by assumption) ?_
    rotate_left
    · (intro w' hSw; (try dsimp only at hSw); go_simp; try with_reducible rfl)
    try simp only [Act.put, List.getElem_toArray, List.getElem_cons_zero, List.getElem_cons_succ, List.setIfInBounds_toArray, List.set_cons_zero, List.set_cons_succ]
    refine wpAnyH_take (i := 8) (v := ?_) rfl (by kernel_rfl) (by kernel_rfl) (by kernel_rfl) (fun _ _ _ h => h) (Or.inl ⟨by rfl, ?_⟩) (by assumption) ?_
    rotate_left
    · (intro w' hSw; (try dsimp only at hSw); go_simp; try with_reducible rfl)
    try simp only [Act.put, List.getElem_toArray, List.getElem_cons_zero, List.getElem_cons_succ, List.setIfInBounds_toArray, List.set_cons_zero, List.set_cons_succ]
    refine wpAnyH_take (i := 9) (v := ?_) rfl (by kernel_rfl) (by kernel_rfl) (by kernel_rfl) (fun _ _ _ h => h) (Or.inl ⟨by rfl, ?_⟩) (by assumption) ?_
    rotate_left
    · (intro w' hSw; (try dsimp only at hSw); go_simp; try with_reducible rfl)
    try simp only [Act.put, List.getElem_toArray, List.getElem_cons_zero, List.getElem_cons_succ, List.setIfInBounds_toArray, List.set_cons_zero, List.set_cons_succ]
    refine wpAnyH_take (i := 10) (v := ?_) rfl (by kernel_rfl) (by kernel_rfl) (by kernel_rfl) (fun _ _ _ h => h) (Or.inl ⟨by rfl, ?_⟩) (by assumption) ?_
    rotate_left
    · (intro w' hSw; (try dsimp only at hSw); go_simp; try with_reducible rfl)
    try simp only [Act.put, List.getElem_toArray, List.getElem_cons_zero, List.getElem_cons_succ, List.setIfInBounds_toArray, List.set_cons_zero, List.set_cons_succ]
    refine wpAnyH_take (i := 11) (v := ?_) rfl (by kernel_rfl) (by kernel_rfl) (by kernel_rfl) (fun _ _ _ h => h) (Or.inl ⟨by rfl, ?_⟩) (by assumption) ?_
    rotate_left
    · (intro w' hSw; (try dsimp only at hSw); go_simp; try with_reducible rfl)
    try simp only [Act.put, List.getElem_toArray, List.getElem_cons_zero, List.getElem_cons_succ, List.setIfInBounds_toArray, List.set_cons_zero, List.set_cons_succ]
    refine wpAnyH_take (i := 12) (v := ?_) rfl (by kernel_rfl) (by kernel_rfl) (by kernel_rfl) (fun _ _ _ h => h) (Or.inl ⟨by rfl, ?_⟩) (by assumption) ?_
    rotate_left
    · (intro w' hSw; (try dsimp only at hSw); go_simp; try with_reducible rfl)
    try simp only [Act.put, List.getElem_toArray, List.getElem_cons_zero, List.getElem_cons_succ, List.setIfInBounds_toArray, List.set_cons_zero, List.set_cons_succ]
    refine wpAnyH_take (i := 13) (v := ?_) rfl (by kernel_rfl) (by kernel_rfl) (by kernel_rfl) (fun _ _ _ h => h) (Or.inl ⟨by rfl, ?_⟩) (by assumption) ?_
    rotate_left
    · (intro w' hSw; (try dsimp only at hSw); go_simp; try with_reducible rfl)
    try simp only [Act.put, List.getElem_toArray, List.getElem_cons_zero, List.getElem_cons_succ, List.setIfInBounds_toArray, List.set_cons_zero, List.set_cons_succ]
    refine wpAnyH_take (i := 14) (v := ?_) rfl (by kernel_rfl) (by kernel_rfl) (by kernel_rfl) (fun _ _ _ h => h) (Or.inl ⟨by rfl, ?_⟩) (by assumption) ?_
    rotate_left
    · (intro w' hSw; (try dsimp only at hSw); go_simp; try with_reducible rfl)
    try simp only [Act.put, List.getElem_toArray, List.getElem_cons_zero, List.getElem_cons_succ, List.setIfInBounds_toArray, List.set_cons_zero, List.set_cons_succ]
    have r0 := cell_of_row w1 w.heap.size 0 _ _ _ HR.out
    have r1 := cell_of_row w1 w.heap.size 1 _ _ _ HR.out
    have q0 := frozen_of_row w1 w.heap.size 0 _ _ HR.out
    have q1 := frozen_of_row w1 w.heap.size 1 _ _ HR.out
    simp at r0 r1
    refine wpAnyH_ready (rs := [15]) (by kernel_rfl) (by simp) ?_
    refine AllReadyH.cons rfl (fun K hK => ?_) AllReadyH.nil
    try simp only [Act.put, List.getElem_toArray, List.getElem_cons_zero, List.getElem_cons_succ, List.setIfInBounds_toArray, List.set_cons_zero, List.set_cons_succ]
    go_simp
    refine hK.out _ _ (HSS.out _ _) (fun hHeld2 => ?_)
    try simp only [Act.put, List.getElem_toArray, List.getElem_cons_zero, List.getElem_cons_succ, List.setIfInBounds_toArray, List.set_cons_zero, List.set_cons_succ]
    refine wpAnyH_done (by kernel_rfl) ?_ _
    refine NoPanic.normal ?_
    clear hK K hHeld hHeld2 r0 r1 q0 q1
    have nb2 := row2_set HR.out (.int .i64 m) (.int .i64 m)
    have HF2 : Hid (Below w.heap.size w ((w1.setCell ⟨w.heap.size, 0, none⟩ (.int .i64 m)).setCell ⟨w.heap.size, 1, none⟩ (.int .i64 m))) := HFIN.out _ _
    generalize (w1.setCell ⟨w.heap.size, 0, none⟩ (.int .i64 m)).setCell ⟨w.heap.size, 1, none⟩ (.int .i64 m) = w2 at *
    have s0 := cell_of_row w2 w.heap.size 0 _ _ _ nb2
    have s1 := cell_of_row w2 w.heap.size 1 _ _ _ nb2
    simp at s0 s1
    go_wp2
    try rw [Exit.noGoto_ret]
    refine bodyPost_ret (results_cell_row Tryz.results17 _ _ w.heap.size _ _ _ _ rfl nb2 Tryz.underlying41 rfl infoSpan) rfl ?_
    exact ⟨rfl, HF2.out⟩
end Go.Proofs.YtlidgjkipbijlaaGreatDoor.itm
end

section
/- Span of a subject, where there are items in it. -/
set_option linter.unusedVariables false
set_option linter.unusedSimpArgs false
namespace Go.Proofs.YtlidgjkipbijlaaGreatDoor.itm
open Go.RowKit Go.Shelf nrm prp
open Go.Proofs.YtlidgjkipbijlaaGreatDoor.utf (IsB lst)

theorem seg_len (l : List nfd.I) (a b : Nat) (hb : b ≤ l.length) : (seg l a b).length = b - a := by
  unfold seg
  rw [List.length_take, List.length_drop]
  omega
theorem seg_at (l : List nfd.I) (a b k : Nat) (hk : k < b - a) : (seg l a b)[k]? = l[a + k]? := by
  unfold seg
  rw [List.getElem?_take_of_lt hk, List.getElem?_drop]
set_option maxHeartbeats 4000000 in
set_option maxRecDepth 1000000 in
theorem span_some (x base n : Nat) (f : Nat → Int) (l : List nfd.I) (a b : Nat) (w : World) (h : TxtIs w base x n f l) (hab : a < b) (hb : b ≤ l.length) (hl : l.length ≤ 100000) :
    Calls Tryz.prog 17 #[.pointer (some ⟨x, 0, none⟩), .int .i64 (a : Int), .int .i64 (b : Int)] w fun e w' => (∃ y, l[a]? = some y ∧ e = .returned (.agg #[.int .i64 (mnF y.2.1 (seg l a b)), .int .i64 (mxF y.2.2 (seg l a b))])) ∧ Below w.heap.size w w' := by
  have BA0 : Below w.heap.size w (w.alloc (.cells #[.int .i64 0, .int .i64 0] 41)) := (Below.refl _ w).alloc (Nat.le_refl _) _
  have h' := h.below BA0
  have C := made_t x base n f l _ h'
  obtain ⟨bv, iv, lv, h1, h2, h3, h4⟩ := h.all
  obtain ⟨g, cap, rfl, hcap, hmax⟩ := own_some h3 (by omega)
  have hcells : ∀ k y, l[k]? = some y → w.cell? ⟨g, k * 3, none⟩ = some (.int .i64 y.1) ∧ w.cell? ⟨g, k * 3 + 1, none⟩ = some (.int .i64 y.2.1) ∧ w.cell? ⟨g, k * 3 + 2, none⟩ = some (.int .i64 y.2.2) := by
    obtain ⟨_, _, ev, hc⟩ := h3.iv
    injection ev with e1 e2 e3
    obtain ⟨b', o, e4, hc⟩ := hc (by omega)
    rw [← e1] at e4
    injection e4 with e4
    injection e4 with e5 e6
    subst e5 e6
    intro k y hy
    have := hc k y hy
    simpa using this
  obtain ⟨y0, hy0⟩ : ∃ y, l[a]? = some y := ⟨_, List.getElem?_eq_getElem (by omega)⟩
  obtain ⟨r0, s0, e0⟩ := y0
  obtain ⟨_, i1, i2⟩ := hcells a _ hy0
  simp only at i1 i2
  have c1 := cell_of_row w x 1 _ _ _ h1
  simp at c1
  have HI : Hid (∀ k, k < b - a → ∃ x1 x2 x3, w.cell? ⟨g, (a + k) * 3, none⟩ = some (.int .i64 x1) ∧ w.cell? ⟨g, (a + k) * 3 + 1, none⟩ = some (.int .i64 x2) ∧ w.cell? ⟨g, (a + k) * 3 + 2, none⟩ = some (.int .i64 x3) ∧ (seg l a b).take (k + 1) = (seg l a b).take k ++ [(x1, x2, x3)]) := fun k hk => by
    obtain ⟨y, hy⟩ : ∃ y, l[a + k]? = some y := ⟨_, List.getElem?_eq_getElem (by omega)⟩
    obtain ⟨d1, d2, d3⟩ := hcells _ _ hy
    refine ⟨y.1, y.2.1, y.2.2, d1, d2, d3, ?_⟩
    have hs := seg_at l a b k hk
    rw [hy] at hs
    obtain ⟨hs1, hs2⟩ := List.getElem?_eq_some_iff.1 hs
    rw [List.take_succ_eq_append_getElem hs1, hs2]
  have HTK : Hid ((seg l a b).take (b - a) = seg l a b) := List.take_of_length_le (by rw [seg_len l a b hb]; exact Nat.le_refl _)
  have HGOAL : Hid (∀ z1 z2 : Int, z1 = mnF s0 (seg l a b) → z2 = mxF e0 (seg l a b) → ∃ y, l[a]? = some y ∧ Ending.returned (.agg #[.int .i64 z1, .int .i64 z2]) = Ending.returned (.agg #[.int .i64 (mnF y.2.1 (seg l a b)), .int .i64 (mxF y.2.2 (seg l a b))])) := fun z1 z2 q1 q2 => ⟨_, hy0, by rw [q1, q2]⟩
  have HX : Hid (w.cell? ⟨x, 1, none⟩ = some (.slice (some ⟨g, 0, none⟩) l.length cap)) := c1
  have HI1 : Hid (w.cell? ⟨g, a * 3 + 1, none⟩ = some (.int .i64 s0)) := i1
  have HI2 : Hid (w.cell? ⟨g, a * 3 + 2, none⟩ = some (.int .i64 e0)) := i2
  obtain ⟨sl, hsl⟩ : ∃ sl, seg l a b = sl := ⟨_, rfl⟩
  rw [hsl] at HI HTK HGOAL
  have HSL : Hid (seg l a b = sl) := hsl
  clear hsl
  have nb := World.alloc_heap_new w (.cells #[.int .i64 0, .int .i64 0] 41)
  have HBA : Hid (Below w.heap.size w (w.alloc (.cells #[.int .i64 0, .int .i64 0] 41))) := BA0
  have HSZ : Hid ((w.alloc (.cells #[.int .i64 0, .int .i64 0] 41)).heap.size = w.heap.size + 1) := by show _ = _; simp
  have c1 := cell_below BA0 HX.out
  generalize hW0 : w.alloc (.cells #[.int .i64 0, .int .i64 0] 41) = W0 at *
  have HR : Hid (W0.drew.heap[w.heap.size]? = some (.cells #[.int .i64 0, .int .i64 0] 41 (0, 0))) := nb
  have HBD : Hid (Below w.heap.size w W0.drew) := BA0.drew
  have HSD : Hid (W0.drew.heap.size = w.heap.size + 1) := HSZ.out
  have HC0 : Hid (W0.cell? ⟨x, 1, none⟩ = some (.slice (some ⟨g, 0, none⟩) l.length cap) ∧ W0.cell? ⟨g, a * 3 + 1, none⟩ = some (.int .i64 s0) ∧ W0.cell? ⟨g, a * 3 + 2, none⟩ = some (.int .i64 e0)) := ⟨cell_below BA0 HX.out, cell_below BA0 HI1.out, cell_below BA0 HI2.out⟩
  have k1 : ¬ (a : Int) < 0 := by omega
  have k2 : ¬ (b : Int) < (a : Int) := by omega
  have k3 : ¬ (l.length : Int) < (b : Int) := by omega
  have k4 : (0 : Int) ≤ (a : Int) := by omega
  have k5 : (a : Int) < (l.length : Int) := by omega
  have k6 : ¬ (a : Int) = (b : Int) := by omega
  have k7 : (a : Int) ≤ (b : Int) := by omega
  have k8 : (b : Int) ≤ (cap : Int) := by omega
  have k9 : (0 : Int) ≤ (b : Int) := by omega
  have HH : Hid (a < b ∧ b ≤ l.length ∧ l.length ≤ 100000 ∧ l.length ≤ cap) := ⟨hab, hb, hl, hcap⟩
  clear h h' h1 h2 h3 h4 BA0 nb hcells hy0 hab hb hl hcap i1 i2
  generalize hN : l.length = N at *
  clear hN
  · go_enter Tryz.func17, Tryz.ntmps17
    go_wp2_with fail
    refine C.mono ?_
    rintro e w1 ⟨rfl, hw⟩
    rw [hw]
    clear C hw w1
    go_wp2
    try rw [hW0]
    refine wp_region_noPanic ?_
    refine wp_region_held_drew (S := fun w' => w'.cell? ⟨x, 1, none⟩ = some (.slice (some ⟨g, 0, none⟩) N cap) ∧ w'.cell? ⟨g, a * 3 + 1, none⟩ = some (.int .i64 s0) ∧ w'.cell? ⟨g, a * 3 + 2, none⟩ = some (.int .i64 e0)) (by kernel_rfl) HC0.out (fun hHeld => ?_)
    clear hW0
    have HC1 : Hid (W0.drew.cell? ⟨x, 1, none⟩ = some (.slice (some ⟨g, 0, none⟩) N cap) ∧ W0.drew.cell? ⟨g, a * 3 + 1, none⟩ = some (.int .i64 s0) ∧ W0.drew.cell? ⟨g, a * 3 + 2, none⟩ = some (.int .i64 e0)) := HC0.out
    have HCA : Hid (∀ o, (W0.drew.alloc o).cell? ⟨x, 1, none⟩ = some (.slice (some ⟨g, 0, none⟩) N cap) ∧ (W0.drew.alloc o).cell? ⟨g, a * 3 + 1, none⟩ = some (.int .i64 s0) ∧ (W0.drew.alloc o).cell? ⟨g, a * 3 + 2, none⟩ = some (.int .i64 e0)) := fun o => by
      have ba : Below W0.drew.heap.size W0.drew (W0.drew.alloc o) := (Below.refl _ _).alloc (Nat.le_refl _) _
      exact ⟨cell_below ba HC1.out.1, cell_below ba HC1.out.2.1, cell_below ba HC1.out.2.2⟩
    clear HC0
    generalize W0.drew = w1 at *
    refine wpAnyH_take (i := 0) (v := ?_) rfl (by kernel_rfl) (by kernel_rfl) (by kernel_rfl) (fun _ _ _ h => h) (Or.inl ⟨by rfl, ?_⟩) (by assumption) ?_
    rotate_left
    · (intro w' hSw; (try dsimp only at hSw); go_simp; try with_reducible rfl)
    try simp only [Act.put, List.getElem_toArray, List.getElem_cons_zero, List.getElem_cons_succ, List.setIfInBounds_toArray, List.set_cons_zero, List.set_cons_succ]
    refine wpAnyH_take (i := 1) (v := ?_) rfl (by kernel_rfl) (by kernel_rfl) (by kernel_rfl) (fun _ _ _ h => h) (Or.inl ⟨by rfl, ?_⟩) (by assumption) ?_
    rotate_left
    · (intro w' hSw; (try dsimp only at hSw); go_simp; try with_reducible rfl)
    try simp only [Act.put, List.getElem_toArray, List.getElem_cons_zero, List.getElem_cons_succ, List.setIfInBounds_toArray, List.set_cons_zero, List.set_cons_succ]
    refine wpAnyH_take (i := 2) (v := ?_) rfl (by kernel_rfl) (by kernel_rfl) (by kernel_rfl) (fun _ _ _ h => h) (Or.inl ⟨by rfl, ?_⟩) (by assumption) ?_
    rotate_left
    · (intro w' hSw; (try dsimp only at hSw); go_simp; try with_reducible rfl)
    try simp only [Act.put, List.getElem_toArray, List.getElem_cons_zero, List.getElem_cons_succ, List.setIfInBounds_toArray, List.set_cons_zero, List.set_cons_succ]
    refine wpAnyH_take (i := 3) (v := ?_) rfl (by kernel_rfl) (by kernel_rfl) (by kernel_rfl) (fun _ _ _ h => h) (Or.inl ⟨by rfl, ?_⟩) (by assumption) ?_
    rotate_left
    · (intro w' hSw; (try dsimp only at hSw); go_simp; try with_reducible rfl)
    try simp only [Act.put, List.getElem_toArray, List.getElem_cons_zero, List.getElem_cons_succ, List.setIfInBounds_toArray, List.set_cons_zero, List.set_cons_succ]
    refine wpAnyH_take (i := 4) (v := ?_) rfl (by kernel_rfl) (by kernel_rfl) (by kernel_rfl) (fun _ _ _ h => h) (Or.inl ⟨by rfl, ?_⟩) (by assumption) ?_
    rotate_left
    · (intro w' hSw; (try dsimp only at hSw); go_simp; try with_reducible rfl)
    try simp only [Act.put, List.getElem_toArray, List.getElem_cons_zero, List.getElem_cons_succ, List.setIfInBounds_toArray, List.set_cons_zero, List.set_cons_succ]
    refine wpAnyH_take (i := 5) (v := ?_) rfl (by kernel_rfl) (by kernel_rfl) (by kernel_rfl) (fun _ _ _ h => h) (Or.inl ⟨by rfl, ?_⟩) (by assumption) ?_
    rotate_left
    · (intro w' hSw; (try dsimp only at hSw); go_simp; try with_reducible rfl)
    try simp only [Act.put, List.getElem_toArray, List.getElem_cons_zero, List.getElem_cons_succ, List.setIfInBounds_toArray, List.set_cons_zero, List.set_cons_succ]
    refine wpAnyH_take (i := 6) (v := ?_) rfl (by kernel_rfl) (by kernel_rfl) (by kernel_rfl) (fun _ _ _ h => h) (Or.inl ⟨by rfl, ?_⟩) (by assumption) ?_
    rotate_left
    · (intro w' hSw; (try dsimp only at hSw); go_simp; try with_reducible rfl)
    try simp only [Act.put, List.getElem_toArray, List.getElem_cons_zero, List.getElem_cons_succ, List.setIfInBounds_toArray, List.set_cons_zero, List.set_cons_succ]
    refine wpAnyH_take (i := 7) (v := ?_) rfl (by kernel_rfl) (by kernel_rfl) (by kernel_rfl) (fun _ _ _ h => h) (Or.inl ⟨by rfl, ?_⟩) (by assumption) ?_
    rotate_left
    · (intro w' hSw; (try dsimp only at hSw); go_simp; try with_reducible rfl)
    try simp only [Act.put, List.getElem_toArray, List.getElem_cons_zero, List.getElem_cons_succ, List.setIfInBounds_toArray, List.set_cons_zero, List.set_cons_succ]
    refine wpAnyH_take (i := 8) (v := ?_) rfl (by kernel_rfl) (by kernel_rfl) (by kernel_rfl) (fun _ _ _ h => h) (Or.inl ⟨by rfl, ?_⟩) (by assumption) ?_
    rotate_left
    · (intro w' hSw; (try dsimp only at hSw); go_simp; try with_reducible rfl)
    try simp only [Act.put, List.getElem_toArray, List.getElem_cons_zero, List.getElem_cons_succ, List.setIfInBounds_toArray, List.set_cons_zero, List.set_cons_succ]
    refine wpAnyH_take (i := 9) (v := ?_) rfl (by kernel_rfl) (by kernel_rfl) (by kernel_rfl) (fun _ _ _ h => h) (Or.inl ⟨by rfl, ?_⟩) (by assumption) ?_
    rotate_left
    · (intro w' hSw; (try dsimp only at hSw); go_simp; try with_reducible rfl)
    try simp only [Act.put, List.getElem_toArray, List.getElem_cons_zero, List.getElem_cons_succ, List.setIfInBounds_toArray, List.set_cons_zero, List.set_cons_succ]
    refine wpAnyH_take (i := 10) (v := ?_) rfl (by kernel_rfl) (by kernel_rfl) (by kernel_rfl) (fun _ _ _ h => h) (Or.inl ⟨by rfl, ?_⟩) (by assumption) ?_
    rotate_left
    · (intro w' hSw; (try dsimp only at hSw); go_simp; try with_reducible rfl)
    try simp only [Act.put, List.getElem_toArray, List.getElem_cons_zero, List.getElem_cons_succ, List.setIfInBounds_toArray, List.set_cons_zero, List.set_cons_succ]
    refine wpAnyH_take (i := 11) (v := ?_) rfl (by kernel_rfl) (by kernel_rfl) (by kernel_rfl) (fun _ _ _ h => h) (Or.inl ⟨by rfl, ?_⟩) (by assumption) ?_
    rotate_left
    · (intro w' hSw; (try dsimp only at hSw); go_simp; try with_reducible rfl)
    try simp only [Act.put, List.getElem_toArray, List.getElem_cons_zero, List.getElem_cons_succ, List.setIfInBounds_toArray, List.set_cons_zero, List.set_cons_succ]
    refine wpAnyH_take (i := 12) (v := ?_) rfl (by kernel_rfl) (by kernel_rfl) (by kernel_rfl) (fun _ _ _ h => h) (Or.inl ⟨by rfl, ?_⟩) (by assumption) ?_
    rotate_left
    · (intro w' hSw; (try dsimp only at hSw); go_simp; try with_reducible rfl)
    try simp only [Act.put, List.getElem_toArray, List.getElem_cons_zero, List.getElem_cons_succ, List.setIfInBounds_toArray, List.set_cons_zero, List.set_cons_succ]
    refine wpAnyH_take (i := 13) (v := ?_) rfl (by kernel_rfl) (by kernel_rfl) (by kernel_rfl) (fun _ _ _ h => h) (Or.inl ⟨by rfl, ?_⟩) (by assumption) ?_
    rotate_left
    · (intro w' hSw; (try dsimp only at hSw); go_simp; try with_reducible rfl)
    try simp only [Act.put, List.getElem_toArray, List.getElem_cons_zero, List.getElem_cons_succ, List.setIfInBounds_toArray, List.set_cons_zero, List.set_cons_succ]
    refine wpAnyH_take (i := 14) (v := ?_) rfl (by kernel_rfl) (by kernel_rfl) (by kernel_rfl) (fun _ _ _ h => h) (Or.inl ⟨by rfl, ?_⟩) (by assumption) ?_
    rotate_left
    · (intro w' hSw; (try dsimp only at hSw); go_simp; try with_reducible rfl)
    try simp only [Act.put, List.getElem_toArray, List.getElem_cons_zero, List.getElem_cons_succ, List.setIfInBounds_toArray, List.set_cons_zero, List.set_cons_succ]
    refine wpAnyH_take (i := 15) (v := ?_) rfl (by kernel_rfl) (by kernel_rfl) (by kernel_rfl) (fun _ _ _ h => h) (Or.inl ⟨by rfl, ?_⟩) (by assumption) ?_
    rotate_left
    · (intro w' hSw; (try dsimp only at hSw); go_simp; try with_reducible rfl)
    try simp only [Act.put, List.getElem_toArray, List.getElem_cons_zero, List.getElem_cons_succ, List.setIfInBounds_toArray, List.set_cons_zero, List.set_cons_succ]
    refine wpAnyH_take (i := 16) (v := ?_) rfl (by kernel_rfl) (by kernel_rfl) (by kernel_rfl) (fun _ _ _ h => h) (Or.inl ⟨by rfl, ?_⟩) (by assumption) ?_
    rotate_left
    · (intro w' hSw; (try dsimp only at hSw); go_simp; try with_reducible rfl)
    try simp only [Act.put, List.getElem_toArray, List.getElem_cons_zero, List.getElem_cons_succ, List.setIfInBounds_toArray, List.set_cons_zero, List.set_cons_succ]
    refine wpAnyH_ready (rs := [17]) (by kernel_rfl) (by simp) ?_
    refine AllReadyH.cons rfl (fun K hK => ?_) AllReadyH.nil
    try simp only [Act.put, List.getElem_toArray, List.getElem_cons_zero, List.getElem_cons_succ, List.setIfInBounds_toArray, List.set_cons_zero, List.set_cons_succ]
    go_simp
    refine hK.out _ _ (HCA.out _) (fun hHeld2 => ?_)
    try simp only [Act.put, List.getElem_toArray, List.getElem_cons_zero, List.getElem_cons_succ, List.setIfInBounds_toArray, List.set_cons_zero, List.set_cons_succ]
    clear hK K hHeld
    have nb1 := World.alloc_heap_new w1 (.cells #[.int .i64 0, .int .i64 0] 41)
    have HB2 : Hid (Below w.heap.size w (w1.alloc (.cells #[.int .i64 0, .int .i64 0] 41))) := HBD.out.alloc HBD.out.size _
    have HR2 : Hid ((w1.alloc (.cells #[.int .i64 0, .int .i64 0] 41)).heap[w.heap.size]? = some (.cells #[.int .i64 0, .int .i64 0] 41 (0, 0))) := (Below.heap_alloc _ _ _ (by rw [HSD.out]; omega)).trans HR.out
    generalize w1.alloc (.cells #[.int .i64 0, .int .i64 0] 41) = w2 at *
    have HSB : Hid (w1.heap.size = w.heap.size + 1) := HSD.out
    generalize w1.heap.size = B at *
    clear HBD HSD HR HC1 HCA
    have r0 := cell_of_row w2 B 0 _ _ _ nb1
    have r1 := cell_of_row w2 B 1 _ _ _ nb1
    have q0 := frozen_of_row w2 B 0 _ _ nb1
    have q1 := frozen_of_row w2 B 1 _ _ nb1
    simp at r0 r1
    have HN1 : Hid (w2.heap[B]? = some (.cells #[.int .i64 0, .int .i64 0] 41 (0, 0))) := nb1
    clear nb1
    refine wpAnyH_ready (rs := [18]) (by kernel_rfl) (by simp) ?_
    refine AllReadyH.cons rfl (fun K hK => ?_) AllReadyH.nil
    try simp only [Act.put, List.getElem_toArray, List.getElem_cons_zero, List.getElem_cons_succ, List.setIfInBounds_toArray, List.set_cons_zero, List.set_cons_succ]
    go_simp
    have HB3 : Hid (Below w.heap.size w ((w2.setCell ⟨B, 0, none⟩ (.int .i64 s0)).setCell ⟨B, 1, none⟩ (.int .i64 e0))) := (HB2.out.setCell (by show _ ≤ B; rw [HSB.out]; omega) _).setCell (by show _ ≤ B; rw [HSB.out]; omega) _
    refine hK.out _ _ ⟨cell_below HB3.out HX.out, cell_below HB3.out HI1.out, cell_below HB3.out HI2.out⟩ (fun hHeld3 => ?_)
    try simp only [Act.put, List.getElem_toArray, List.getElem_cons_zero, List.getElem_cons_succ, List.setIfInBounds_toArray, List.set_cons_zero, List.set_cons_succ]
    refine wpAnyH_done (by kernel_rfl) ?_ _
    refine NoPanic.normal ?_
    clear hK K hHeld2 hHeld3 r0 r1 q0 q1
    have HN2 : Hid (((w2.setCell ⟨B, 0, none⟩ (.int .i64 s0)).setCell ⟨B, 1, none⟩ (.int .i64 e0)).heap[B]? = some (.cells #[.int .i64 s0, .int .i64 e0] 41 (0, 0))) := row2_set HN1.out _ _
    have HR3 : Hid (((w2.setCell ⟨B, 0, none⟩ (.int .i64 s0)).setCell ⟨B, 1, none⟩ (.int .i64 e0)).heap[w.heap.size]? = some (.cells #[.int .i64 0, .int .i64 0] 41 (0, 0))) := by
      have hne := HSB.out
      show _ = _
      rw [heap_setCell_other _ ⟨B, 1, none⟩ _ _ (by simp only; omega), heap_setCell_other _ ⟨B, 0, none⟩ _ _ (by simp only; omega)]
      exact HR2.out
    clear HN1 HR2 HB2
    generalize (w2.setCell ⟨B, 0, none⟩ (.int .i64 s0)).setCell ⟨B, 1, none⟩ (.int .i64 e0) = w3 at *
    have c3 := cell_below HB3.out HX.out
    clear HI1 HI2
    go_wp2
    have HBLE : Hid (w.heap.size < B) := by have := HSB.out; show _ < _; omega
    have HIC : Hid ((cap : Int) ≤ 9223372036854775807) := by show _ ≤ _; omega
    have HML : Hid (b - a ≤ cap - a ∧ b - a ≤ 100000) := by have := HH.out; show _ ∧ _; omega
    generalize hM : b - a = M at *
    clear hM k1 k2 k3 k4 k5 k6 k7 k8 k9 c3
    go_loopw [77] (fun i wr => ∃ k : Nat, k ≤ M ∧ i = .int .i64 k ∧ Hid (wr.heap[B]? = some (.cells #[.int .i64 (mnF s0 (sl.take k)), .int .i64 (mxF e0 (sl.take k))] 41 (0, 0))) ∧ Hid (wr.heap[w.heap.size]? = some (.cells #[.int .i64 0, .int .i64 0] 41 (0, 0))) ∧ Hid (Below w.heap.size w wr)) (fun i _ => M - (RowKit.intOf i).toNat)
    case atStart => exact ⟨0, Nat.zero_le _, rfl, HN2, HR3, HB3⟩
    case round =>
      clear HN2 HR3 HB3
      obtain ⟨k, hk, rfl, HN, HRR, HB⟩ := hrel
      by_cases hlt : k < M
      · obtain ⟨x1, x2, x3, d1, d2, d3, htk⟩ := HI.out k hlt
        rw [show (a + k) * 3 = a * 3 + k * 3 by omega] at d1 d2 d3
        have f1 := cell_below HB.out d1
        have f2 := cell_below HB.out d2
        have f3 := cell_below HB.out d3
        have hM1 := HML.out.2
        have hlt' : (k : Int) < (M : Int) := by omega
        have hk0 : (0 : Int) ≤ (k : Int) := by omega
        have hmn : mnF s0 (sl.take (k + 1)) = min (mnF s0 (sl.take k)) x2 := by rw [htk, mn_snoc]
        have hmx : mxF e0 (sl.take (k + 1)) = max (mxF e0 (sl.take k)) x3 := by rw [htk, mx_snoc]
        have ba : Below wr.heap.size wr (wr.alloc (.cells #[.int .i64 x1, .int .i64 x2, .int .i64 x3] 30)) := (Below.refl _ wr).alloc (Nat.le_refl _) _
        have hBl : B < wr.heap.size := (Array.getElem?_eq_some_iff.1 HN.out).1
        have hRl : w.heap.size < wr.heap.size := (Array.getElem?_eq_some_iff.1 HRR.out).1
        have nB := (ba.block B hBl).trans HN.out
        have nR := (ba.block _ hRl).trans HRR.out
        have nI := World.alloc_heap_new wr (.cells #[.int .i64 x1, .int .i64 x2, .int .i64 x3] 30)
        have HB4 : Hid (Below w.heap.size w (wr.alloc (.cells #[.int .i64 x1, .int .i64 x2, .int .i64 x3] 30))) := HB.out.alloc HB.out.size _
        generalize hWA : wr.alloc (.cells #[.int .i64 x1, .int .i64 x2, .int .i64 x3] 30) = WA at *
        have HNX : Hid (((WA.setCell ⟨B, 0, none⟩ (.int .i64 (min (mnF s0 (sl.take k)) x2))).setCell ⟨B, 1, none⟩ (.int .i64 (max (mxF e0 (sl.take k)) x3))).heap[B]? = some (.cells #[.int .i64 (mnF s0 (sl.take (k + 1))), .int .i64 (mxF e0 (sl.take (k + 1)))] 41 (0, 0))) := by
          show _ = _
          rw [hmn, hmx]
          exact row2_set nB _ _
        have HRX : Hid (((WA.setCell ⟨B, 0, none⟩ (.int .i64 (min (mnF s0 (sl.take k)) x2))).setCell ⟨B, 1, none⟩ (.int .i64 (max (mxF e0 (sl.take k)) x3))).heap[w.heap.size]? = some (.cells #[.int .i64 0, .int .i64 0] 41 (0, 0))) := by
          have hne := HBLE.out
          show _ = _
          rw [heap_setCell_other _ ⟨B, 1, none⟩ _ _ (by simp only; omega), heap_setCell_other _ ⟨B, 0, none⟩ _ _ (by simp only; omega)]
          exact nR
        have HBX : Hid (Below w.heap.size w ((WA.setCell ⟨B, 0, none⟩ (.int .i64 (min (mnF s0 (sl.take k)) x2))).setCell ⟨B, 1, none⟩ (.int .i64 (max (mxF e0 (sl.take k)) x3)))) := (HB4.out.setCell (Nat.le_of_lt HBLE.out) _).setCell (Nat.le_of_lt HBLE.out) _
        have g1 := cell_of_row WA wr.heap.size 1 _ _ _ nI
        have g2 := cell_of_row WA wr.heap.size 2 _ _ _ nI
        have s1 := cell_of_row WA B 0 _ _ _ nB
        have s2 := cell_of_row WA B 1 _ _ _ nB
        have q1 := frozen_of_row WA B 0 _ _ nB
        have q2 := frozen_of_row WA B 1 _ _ nB
        have hne : ¬ wr.heap.size = B := by omega
        have hne' : ¬ B = wr.heap.size := by omega
        simp at g1 g2 s1 s2
        generalize mnF s0 (sl.take k) = mn at *
        generalize mxF e0 (sl.take k) = mx at *
        clear HN HRR HB d1 d2 d3 nB nI nR ba htk hmn hmx hBl hRl HB4
        go_wp2
        go_roundw
        case rel => exact ⟨k + 1, by omega, by go_num, HNX, HRX, HBX⟩
        case measure => simp [RowKit.intOf]; omega
      · obtain rfl : k = M := by omega
        have hlt' : ¬ (k : Int) < (k : Int) := by omega
        have nB := HN.out
        have nR := HRR.out
        rw [HTK.out] at nB
        have HBF : Hid (∀ u v, Below w.heap.size w ((wr.setCell ⟨w.heap.size, 0, none⟩ u).setCell ⟨w.heap.size, 1, none⟩ v)) := fun u v => (HB.out.setCell (Nat.le_refl _) _).setCell (Nat.le_refl _) _
        have s1 := cell_of_row wr B 0 _ _ _ nB
        have s2 := cell_of_row wr B 1 _ _ _ nB
        have s3 := cell_of_row wr w.heap.size 0 _ _ _ nR
        have s4 := cell_of_row wr w.heap.size 1 _ _ _ nR
        have q3 := frozen_of_row wr w.heap.size 0 _ _ nR
        have q4 := frozen_of_row wr w.heap.size 1 _ _ nR
        simp at s1 s2 s3 s4
        have HNR : Hid (wr.heap[w.heap.size]? = some (.cells #[.int .i64 0, .int .i64 0] 41 (0, 0))) := nR
        have HG := HGOAL.out _ _ rfl rfl
        have HG2 : Hid (∃ y, l[a]? = some y ∧ Ending.returned (.agg #[.int .i64 (mnF s0 sl), .int .i64 (mxF e0 sl)]) = Ending.returned (.agg #[.int .i64 (mnF y.2.1 sl), .int .i64 (mxF y.2.2 sl)])) := HG
        have HSL2 : Hid (seg l a b = sl) := HSL
        clear HN HRR HB nB nR HG HGOAL HTK HI HSL
        go_wp2
        try rw [Exit.noGoto_ret]
        refine bodyPost_ret (results_cell_row Tryz.results17 _ _ w.heap.size _ _ _ _ rfl (row2_set HNR.out _ _) Tryz.underlying41 rfl infoSpan) rfl ?_
        rw [HSL2.out]
        obtain ⟨y, hy, he⟩ := HG2.out
        exact ⟨⟨y.1, y.2.1, y.2.2, hy, he⟩, HBF.out _ _⟩
theorem span_t (x base n : Nat) (f : Nat → Int) (l : List nfd.I) (a b : Int) (w : World) (h : TxtIs w base x n f l) (hl : l.length ≤ 100000) (hF : Fine n l) :
    Calls Tryz.prog 17 #[.pointer (some ⟨x, 0, none⟩), .int .i64 a, .int .i64 b] w fun e w' => e = .returned (spV (spanP n l a b)) ∧ Below w.heap.size w w' := by
  by_cases hout : a < 0 ∨ b < a ∨ (l.length : Int) < b
  · refine (span_out x base n f l a b w h hout).mono ?_
    rintro e w' ⟨rfl, hb⟩
    refine ⟨?_, hb⟩
    unfold spanP spV
    rw [if_pos hout]
  · obtain ⟨a', rfl⟩ : ∃ a' : Nat, a = (a' : Int) := ⟨a.toNat, by omega⟩
    obtain ⟨b', rfl⟩ : ∃ b' : Nat, b = (b' : Int) := ⟨b.toNat, by omega⟩
    by_cases hab : a' = b'
    · subst hab
      refine (span_none x base n f l a' w h (by omega)).mono ?_
      rintro e w' ⟨rfl, hb⟩
      refine ⟨?_, hb⟩
      unfold spanP spV
      rw [if_neg hout, if_pos rfl]
      rfl
    · refine (span_some x base n f l a' b' w h (by omega) (by omega) hl).mono ?_
      rintro e w' ⟨⟨y, hy, rfl⟩, hb⟩
      refine ⟨?_, hb⟩
      unfold spanP spV
      rw [if_neg hout, if_neg (by omega), Int.toNat_natCast, Int.toNat_natCast, seg_cons hy (by omega)]
      have hy' := hF y (List.mem_of_getElem? hy)
      rw [mn_first _ (show y.2.1 ≤ (n : Int) by omega), mx_first _ (show 0 ≤ y.2.2 by omega)]
end Go.Proofs.YtlidgjkipbijlaaGreatDoor.itm
end
