/- Texts that the proof leans on, one behind the other. -/
import Derived.Test.YtlidgjkipbijlaaGreatDoorBdItm3
import Derived.Test.YtlidgjkipbijlaaGreatDoorBdItm6

section
/- The document's Span. -/
set_option linter.unusedVariables false
set_option linter.unusedSimpArgs false
namespace Go.Proofs.YtlidgjkipbijlaaGreatDoor.itm
open Go.RowKit Go.Shelf nrm prp
open Go.Proofs.YtlidgjkipbijlaaGreatDoor.utf (IsB lst)

set_option maxHeartbeats 2000000 in
set_option maxRecDepth 1000000 in
theorem rspan_out (x base n : Nat) (f : Nat → Int) (l : List nfd.I) (a b : Int) (w : World) (h : RTxt w base x n f l) (hout : a < 0 ∨ b < a ∨ (l.length : Int) < b) :
    Calls Tryz.prog 18 #[.pointer (some ⟨x, 0, none⟩), .int .i64 a, .int .i64 b] w fun e w' => e = .returned (.agg #[.int .i64 (-1), .int .i64 (-1)]) ∧ Below w.heap.size w w' := by
  have BA0 : Below w.heap.size w (w.alloc (.cells #[.int .i64 0, .int .i64 0] 41)) := (Below.refl _ w).alloc (Nat.le_refl _) _
  obtain ⟨bv, iv, h1, h2, h3⟩ := h.all
  obtain ⟨ba, bc, rfl⟩ := lin.own_slice h2
  obtain ⟨ia, ic, rfl⟩ := lin.own_slice h3
  have c0 := cell_of_row w x 0 _ _ _ h1
  have c1 := cell_of_row w x 1 _ _ _ h1
  simp at c0 c1
  have c0 := cell_below BA0 c0
  have c1 := cell_below BA0 c1
  have nb := World.alloc_heap_new w (.cells #[.int .i64 0, .int .i64 0] 41)
  have HBA : Hid (Below w.heap.size w (w.alloc (.cells #[.int .i64 0, .int .i64 0] 41))) := BA0
  have HR : Hid ((w.alloc (.cells #[.int .i64 0, .int .i64 0] 41)).heap[w.heap.size]? = some (.cells #[.int .i64 0, .int .i64 0] 41 (0, 0))) := nb
  generalize hW0 : w.alloc (.cells #[.int .i64 0, .int .i64 0] 41) = W0 at *
  clear h h1 h2 h3 BA0 nb
  generalize l.length = N at *
  have HRR := HR
  have HB := HBA
  clear HR HBA
  by_cases k1 : a < 0
  · clear hout
    have nR := HRR.out
    have HBF : Hid (∀ u v, Below w.heap.size w ((W0.setCell ⟨w.heap.size, 0, none⟩ u).setCell ⟨w.heap.size, 1, none⟩ v)) := fun u v => (HB.out.setCell (Nat.le_refl _) _).setCell (Nat.le_refl _) _
    have s3 := cell_of_row W0 w.heap.size 0 _ _ _ nR
    have s4 := cell_of_row W0 w.heap.size 1 _ _ _ nR
    have q3 := frozen_of_row W0 w.heap.size 0 _ _ nR
    have q4 := frozen_of_row W0 w.heap.size 1 _ _ nR
    simp at s3 s4
    have HNR : Hid (W0.heap[w.heap.size]? = some (.cells #[.int .i64 0, .int .i64 0] 41 (0, 0))) := nR
    clear HRR HB nR
    go_enter Tryz.func18, Tryz.ntmps18
    go_wp2
    try rw [Exit.noGoto_ret]
    refine bodyPost_ret (results_cell_row Tryz.results18 _ _ w.heap.size _ _ _ _ rfl (row2_set HNR.out _ _) Tryz.underlying41 rfl infoSpan) rfl ?_
    exact ⟨rfl, HBF.out _ _⟩
  by_cases k2 : b < a
  · clear hout
    have nR := HRR.out
    have HBF : Hid (∀ u v, Below w.heap.size w ((W0.setCell ⟨w.heap.size, 0, none⟩ u).setCell ⟨w.heap.size, 1, none⟩ v)) := fun u v => (HB.out.setCell (Nat.le_refl _) _).setCell (Nat.le_refl _) _
    have s3 := cell_of_row W0 w.heap.size 0 _ _ _ nR
    have s4 := cell_of_row W0 w.heap.size 1 _ _ _ nR
    have q3 := frozen_of_row W0 w.heap.size 0 _ _ nR
    have q4 := frozen_of_row W0 w.heap.size 1 _ _ nR
    simp at s3 s4
    have HNR : Hid (W0.heap[w.heap.size]? = some (.cells #[.int .i64 0, .int .i64 0] 41 (0, 0))) := nR
    clear HRR HB nR
    go_enter Tryz.func18, Tryz.ntmps18
    go_wp2
    try rw [Exit.noGoto_ret]
    refine bodyPost_ret (results_cell_row Tryz.results18 _ _ w.heap.size _ _ _ _ rfl (row2_set HNR.out _ _) Tryz.underlying41 rfl infoSpan) rfl ?_
    exact ⟨rfl, HBF.out _ _⟩
  · have k3 : (N : Int) < b := by omega
    clear hout
    have nR := HRR.out
    have HBF : Hid (∀ u v, Below w.heap.size w ((W0.setCell ⟨w.heap.size, 0, none⟩ u).setCell ⟨w.heap.size, 1, none⟩ v)) := fun u v => (HB.out.setCell (Nat.le_refl _) _).setCell (Nat.le_refl _) _
    have s3 := cell_of_row W0 w.heap.size 0 _ _ _ nR
    have s4 := cell_of_row W0 w.heap.size 1 _ _ _ nR
    have q3 := frozen_of_row W0 w.heap.size 0 _ _ nR
    have q4 := frozen_of_row W0 w.heap.size 1 _ _ nR
    simp at s3 s4
    have HNR : Hid (W0.heap[w.heap.size]? = some (.cells #[.int .i64 0, .int .i64 0] 41 (0, 0))) := nR
    clear HRR HB nR
    go_enter Tryz.func18, Tryz.ntmps18
    go_wp2
    try rw [Exit.noGoto_ret]
    refine bodyPost_ret (results_cell_row Tryz.results18 _ _ w.heap.size _ _ _ _ rfl (row2_set HNR.out _ _) Tryz.underlying41 rfl infoSpan) rfl ?_
    exact ⟨rfl, HBF.out _ _⟩
set_option maxHeartbeats 2000000 in
set_option maxRecDepth 1000000 in
theorem rspan_nil (x base n : Nat) (f : Nat → Int) (w : World) (bv : Value) (hn : n ≤ 100000) (h1 : w.heap[x]? = some (.cells #[bv, .slice none 0 0] 33 (0, 0))) (h2 : w.ownsRow base 5 1 bv n ((lst f n).map (Value.int .u8))) :
    Calls Tryz.prog 18 #[.pointer (some ⟨x, 0, none⟩), .int .i64 0, .int .i64 0] w fun e w' => e = .returned (.agg #[.int .i64 n, .int .i64 n]) ∧ Below w.heap.size w w' := by
  have BA0 : Below w.heap.size w (w.alloc (.cells #[.int .i64 0, .int .i64 0] 41)) := (Below.refl _ w).alloc (Nat.le_refl _) _
  obtain ⟨ba, bc, rfl⟩ := lin.own_slice h2
  have c0 := cell_of_row w x 0 _ _ _ h1
  have c1 := cell_of_row w x 1 _ _ _ h1
  simp at c0 c1
  have c0 := cell_below BA0 c0
  have c1 := cell_below BA0 c1
  have nb := World.alloc_heap_new w (.cells #[.int .i64 0, .int .i64 0] 41)
  have HBA : Hid (Below w.heap.size w (w.alloc (.cells #[.int .i64 0, .int .i64 0] 41))) := BA0
  have HR : Hid ((w.alloc (.cells #[.int .i64 0, .int .i64 0] 41)).heap[w.heap.size]? = some (.cells #[.int .i64 0, .int .i64 0] 41 (0, 0))) := nb
  generalize hW0 : w.alloc (.cells #[.int .i64 0, .int .i64 0] 41) = W0 at *
  clear h1 h2 BA0 nb
  have HRR := HR
  have HB := HBA
  clear HR HBA
  have nR := HRR.out
  have HBF : Hid (∀ u v, Below w.heap.size w ((W0.setCell ⟨w.heap.size, 0, none⟩ u).setCell ⟨w.heap.size, 1, none⟩ v)) := fun u v => (HB.out.setCell (Nat.le_refl _) _).setCell (Nat.le_refl _) _
  have s3 := cell_of_row W0 w.heap.size 0 _ _ _ nR
  have s4 := cell_of_row W0 w.heap.size 1 _ _ _ nR
  have q3 := frozen_of_row W0 w.heap.size 0 _ _ nR
  have q4 := frozen_of_row W0 w.heap.size 1 _ _ nR
  simp at s3 s4
  have HNR : Hid (W0.heap[w.heap.size]? = some (.cells #[.int .i64 0, .int .i64 0] 41 (0, 0))) := nR
  clear HRR HB nR
  go_enter Tryz.func18, Tryz.ntmps18
  go_wp2
  refine wp_loop_rounds 1 ?_
  rw [rounds_succ]
  try rw [hW0]
  go_wp2
  try rw [Exit.noGoto_ret]
  refine bodyPost_ret (results_cell_row Tryz.results18 _ _ w.heap.size _ _ _ _ rfl (row2_set HNR.out _ _) Tryz.underlying41 rfl infoSpan) rfl ?_
  exact ⟨rfl, HBF.out _ _⟩
set_option maxHeartbeats 2000000 in
set_option maxRecDepth 1000000 in
theorem rspan_same (x base n : Nat) (f : Nat → Int) (l : List nfd.I) (a : Nat) (w : World) (bv : Value) (g cap : Nat) (h1 : w.heap[x]? = some (.cells #[bv, .slice (some ⟨g, 0, none⟩) l.length cap] 33 (0, 0))) (h2 : w.ownsRow base 5 1 bv n ((lst f n).map (Value.int .u8))) (h3 : Own3 w base (.slice (some ⟨g, 0, none⟩) l.length cap) l) (hcap : l.length ≤ cap) (hmax : cap ≤ 9223372036854775807) (hn : n ≤ 100000) (hl : l.length ≤ 100000) (ha : a < l.length) :
    Calls Tryz.prog 18 #[.pointer (some ⟨x, 0, none⟩), .int .i64 (a : Int), .int .i64 (a : Int)] w fun e w' => e = .returned (.agg #[.int .i64 (mnF n (l.drop a)), .int .i64 (mnF n (l.drop a))]) ∧ Below w.heap.size w w' := by
  have hcells : ∀ k y, l[k]? = some y → w.cell? ⟨g, k * 3, none⟩ = some (.int .i64 y.1) ∧ w.cell? ⟨g, k * 3 + 1, none⟩ = some (.int .i64 y.2.1) ∧ w.cell? ⟨g, k * 3 + 2, none⟩ = some (.int .i64 y.2.2) := by
    intro k y hy
    obtain ⟨_, _, ev, hc⟩ := h3.iv
    injection ev with e1 e2 e3
    obtain ⟨b', o, e4, hc⟩ := hc (by have := (List.getElem?_eq_some_iff.1 hy).1; omega)
    rw [← e1] at e4
    injection e4 with e4
    injection e4 with e5 e6
    subst e5 e6
    have := hc k y hy
    simpa using this
  have BA0 : Below w.heap.size w (w.alloc (.cells #[.int .i64 0, .int .i64 0] 41)) := (Below.refl _ w).alloc (Nat.le_refl _) _
  obtain ⟨ba, bc, rfl⟩ := lin.own_slice h2
  have c0 := cell_of_row w x 0 _ _ _ h1
  have c1 := cell_of_row w x 1 _ _ _ h1
  simp at c0 c1
  have c0 := cell_below BA0 c0
  have c1 := cell_below BA0 c1
  have nb := World.alloc_heap_new w (.cells #[.int .i64 0, .int .i64 0] 41)
  have HBA : Hid (Below w.heap.size w (w.alloc (.cells #[.int .i64 0, .int .i64 0] 41))) := BA0
  have HR : Hid ((w.alloc (.cells #[.int .i64 0, .int .i64 0] 41)).heap[w.heap.size]? = some (.cells #[.int .i64 0, .int .i64 0] 41 (0, 0))) := nb
  have HI : Hid (∀ k, k < l.length - a → ∃ x1 x2 x3, w.cell? ⟨g, (a + k) * 3, none⟩ = some (.int .i64 x1) ∧ w.cell? ⟨g, (a + k) * 3 + 1, none⟩ = some (.int .i64 x2) ∧ w.cell? ⟨g, (a + k) * 3 + 2, none⟩ = some (.int .i64 x3) ∧ mnF n ((l.drop a).take (k + 1)) = min (mnF n ((l.drop a).take k)) x2) := fun k hk => by
    obtain ⟨y, hy⟩ : ∃ y, l[a + k]? = some y := ⟨_, List.getElem?_eq_getElem (by omega)⟩
    obtain ⟨d1, d2, d3⟩ := hcells _ _ hy
    refine ⟨y.1, y.2.1, y.2.2, d1, d2, d3, ?_⟩
    have hs : (l.drop a)[k]? = some y := by rw [List.getElem?_drop]; exact hy
    obtain ⟨hs1, hs2⟩ := List.getElem?_eq_some_iff.1 hs
    rw [List.take_succ_eq_append_getElem hs1, hs2, mn_snoc]
  have H0 : Hid (mnF n ((l.drop a).take 0) = n) := rfl
  have HE : Hid (mnF n ((l.drop a).take (l.length - a)) = mnF n (l.drop a)) := by
    show _ = _
    rw [List.take_of_length_le (by rw [List.length_drop]; exact Nat.le_refl _)]
  obtain ⟨s, hs⟩ : ∃ s : Nat → Int, ∀ k, mnF n ((l.drop a).take k) = s k := ⟨_, fun _ => rfl⟩
  simp only [hs] at HI H0 HE
  generalize mnF n (l.drop a) = R at *
  clear hs
  have k1 : ¬ (a : Int) < 0 := by omega
  have k3 : ¬ (l.length : Int) < (a : Int) := by omega
  have k4 : (0 : Int) ≤ (a : Int) := by omega
  have k5 : (a : Int) ≤ (l.length : Int) := by omega
  have k6 : (l.length : Int) ≤ (cap : Int) := by omega
  generalize hW0 : w.alloc (.cells #[.int .i64 0, .int .i64 0] 41) = W0 at *
  clear h1 h2 h3 BA0 nb hcells
  generalize l.length = N at *
  go_enter Tryz.func18, Tryz.ntmps18
  go_wp2
  try rw [hW0]
  clear c0 c1
  generalize hM : N - a = M at *
  have hM1 : M ≤ 100000 := by omega
  have HMM : Hid (N - a = M) := hM
  clear hM
  have ha1 : a ≤ 100000 := by omega
  go_loopw [7, 8, 40] (fun u v i wr => ∃ k : Nat, k ≤ M ∧ i = .int .i64 k ∧ u = .int .i64 (s k) ∧ v = .int .i64 0 ∧ Hid (wr.heap[w.heap.size]? = some (.cells #[.int .i64 0, .int .i64 0] 41 (0, 0))) ∧ Hid (Below w.heap.size w wr)) (fun _ _ i _ => M - (RowKit.intOf i).toNat)
  case atStart => exact ⟨0, Nat.zero_le _, rfl, by rw [H0.out], by first | rfl | rw [H0.out.2], HR, HBA⟩
  case round =>
    clear HR HBA hW0
    obtain ⟨k, hk, rfl, rfl, rfl, HRR, HB⟩ := hrel
    by_cases hlt : k < M
    · obtain ⟨x1, x2, x3, d1, d2, d3, htk⟩ := HI.out k hlt
      rw [show (a + k) * 3 = a * 3 + k * 3 by omega] at d1 d2 d3
      have f1 := cell_below HB.out d1
      have f2 := cell_below HB.out d2
      have f3 := cell_below HB.out d3
      have hlt' : (k : Int) < (M : Int) := by omega
      have hk0 : (0 : Int) ≤ (k : Int) := by omega
      have HTK : Hid (s (k + 1) = min (s k) x2) := htk
      have ba' : Below wr.heap.size wr (wr.alloc (.cells #[.int .i64 x1, .int .i64 x2, .int .i64 x3] 30)) := (Below.refl _ wr).alloc (Nat.le_refl _) _
      have HRX : Hid ((wr.alloc (.cells #[.int .i64 x1, .int .i64 x2, .int .i64 x3] 30)).heap[w.heap.size]? = some (.cells #[.int .i64 0, .int .i64 0] 41 (0, 0))) := (ba'.block _ (Array.getElem?_eq_some_iff.1 HRR.out).1).trans HRR.out
      have HBX : Hid (Below w.heap.size w (wr.alloc (.cells #[.int .i64 x1, .int .i64 x2, .int .i64 x3] 30))) := HB.out.alloc HB.out.size _
      have nI := World.alloc_heap_new wr (.cells #[.int .i64 x1, .int .i64 x2, .int .i64 x3] 30)
      generalize hWA : wr.alloc (.cells #[.int .i64 x1, .int .i64 x2, .int .i64 x3] 30) = WA at *
      have g1 := cell_of_row WA wr.heap.size 1 _ _ _ nI
      have g2 := cell_of_row WA wr.heap.size 2 _ _ _ nI
      simp at g1 g2
      clear HRR HB d1 d2 d3 nI ba' htk
      have t1 : ¬ (a : Int) + (k : Int) < (a : Int) := by omega
      go_wp2
      try rw [hWA]
      go_roundw
      case rel => exact ⟨k + 1, by omega, by go_num, by rw [HTK.out], rfl, HRX, HBX⟩
      case measure => simp [RowKit.intOf]; omega
    · obtain rfl : k = M := by omega
      have hlt' : ¬ (k : Int) < (k : Int) := by omega
      have HEE : Hid (s k = R) := HE
      have nR := HRR.out
      have HBF : Hid (∀ u v, Below w.heap.size w ((wr.setCell ⟨w.heap.size, 0, none⟩ u).setCell ⟨w.heap.size, 1, none⟩ v)) := fun u v => (HB.out.setCell (Nat.le_refl _) _).setCell (Nat.le_refl _) _
      have s3 := cell_of_row wr w.heap.size 0 _ _ _ nR
      have s4 := cell_of_row wr w.heap.size 1 _ _ _ nR
      have q3 := frozen_of_row wr w.heap.size 0 _ _ nR
      have q4 := frozen_of_row wr w.heap.size 1 _ _ nR
      simp at s3 s4
      have HNR : Hid (wr.heap[w.heap.size]? = some (.cells #[.int .i64 0, .int .i64 0] 41 (0, 0))) := nR
      clear HRR HB nR
      go_wp2
      try rw [Exit.noGoto_ret]
      refine bodyPost_ret (results_cell_row Tryz.results18 _ _ w.heap.size _ _ _ _ rfl (row2_set HNR.out _ _) Tryz.underlying41 rfl infoSpan) rfl ?_
      exact ⟨by rw [HEE.out], HBF.out _ _⟩
set_option maxHeartbeats 2000000 in
set_option maxRecDepth 1000000 in
theorem rspan_some (x base n : Nat) (f : Nat → Int) (l : List nfd.I) (a b : Nat) (w : World) (bv : Value) (g cap : Nat) (h1 : w.heap[x]? = some (.cells #[bv, .slice (some ⟨g, 0, none⟩) l.length cap] 33 (0, 0))) (h2 : w.ownsRow base 5 1 bv n ((lst f n).map (Value.int .u8))) (h3 : Own3 w base (.slice (some ⟨g, 0, none⟩) l.length cap) l) (hcap : l.length ≤ cap) (hmax : cap ≤ 9223372036854775807) (hn : n ≤ 100000) (hl : l.length ≤ 100000) (hab : a < b) (hb : b ≤ l.length) :
    Calls Tryz.prog 18 #[.pointer (some ⟨x, 0, none⟩), .int .i64 (a : Int), .int .i64 (b : Int)] w fun e w' => e = .returned (.agg #[.int .i64 (mnF n (seg l a b)), .int .i64 (mxF 0 (seg l a b))]) ∧ Below w.heap.size w w' := by
  have hcells : ∀ k y, l[k]? = some y → w.cell? ⟨g, k * 3, none⟩ = some (.int .i64 y.1) ∧ w.cell? ⟨g, k * 3 + 1, none⟩ = some (.int .i64 y.2.1) ∧ w.cell? ⟨g, k * 3 + 2, none⟩ = some (.int .i64 y.2.2) := by
    intro k y hy
    obtain ⟨_, _, ev, hc⟩ := h3.iv
    injection ev with e1 e2 e3
    obtain ⟨b', o, e4, hc⟩ := hc (by have := (List.getElem?_eq_some_iff.1 hy).1; omega)
    rw [← e1] at e4
    injection e4 with e4
    injection e4 with e5 e6
    subst e5 e6
    have := hc k y hy
    simpa using this
  have BA0 : Below w.heap.size w (w.alloc (.cells #[.int .i64 0, .int .i64 0] 41)) := (Below.refl _ w).alloc (Nat.le_refl _) _
  obtain ⟨ba, bc, rfl⟩ := lin.own_slice h2
  have c0 := cell_of_row w x 0 _ _ _ h1
  have c1 := cell_of_row w x 1 _ _ _ h1
  simp at c0 c1
  have c0 := cell_below BA0 c0
  have c1 := cell_below BA0 c1
  have nb := World.alloc_heap_new w (.cells #[.int .i64 0, .int .i64 0] 41)
  have HBA : Hid (Below w.heap.size w (w.alloc (.cells #[.int .i64 0, .int .i64 0] 41))) := BA0
  have HR : Hid ((w.alloc (.cells #[.int .i64 0, .int .i64 0] 41)).heap[w.heap.size]? = some (.cells #[.int .i64 0, .int .i64 0] 41 (0, 0))) := nb
  have HI : Hid (∀ k, k < l.length - a → ∃ x1 x2 x3, w.cell? ⟨g, (a + k) * 3, none⟩ = some (.int .i64 x1) ∧ w.cell? ⟨g, (a + k) * 3 + 1, none⟩ = some (.int .i64 x2) ∧ w.cell? ⟨g, (a + k) * 3 + 2, none⟩ = some (.int .i64 x3) ∧ (if a + k < b then mnF n ((seg l a b).take (k + 1)) = min (mnF n ((seg l a b).take k)) x2 ∧ mxF 0 ((seg l a b).take (k + 1)) = max (mxF 0 ((seg l a b).take k)) x3 else mnF n ((seg l a b).take (k + 1)) = mnF n ((seg l a b).take k) ∧ mxF 0 ((seg l a b).take (k + 1)) = mxF 0 ((seg l a b).take k))) := fun k hk => by
    obtain ⟨y, hy⟩ : ∃ y, l[a + k]? = some y := ⟨_, List.getElem?_eq_getElem (by omega)⟩
    obtain ⟨d1, d2, d3⟩ := hcells _ _ hy
    refine ⟨y.1, y.2.1, y.2.2, d1, d2, d3, ?_⟩
    by_cases hkb : a + k < b
    · rw [if_pos hkb]
      have hs := seg_at l a b k (by omega)
      rw [hy] at hs
      obtain ⟨hs1, hs2⟩ := List.getElem?_eq_some_iff.1 hs
      rw [List.take_succ_eq_append_getElem hs1, hs2, mn_snoc, mx_snoc]
      exact ⟨rfl, rfl⟩
    · rw [if_neg hkb, List.take_of_length_le (by rw [seg_len l a b hb]; omega), List.take_of_length_le (by rw [seg_len l a b hb]; omega)]
      exact ⟨rfl, rfl⟩
  have H0 : Hid (mnF n ((seg l a b).take 0) = n ∧ mxF 0 ((seg l a b).take 0) = 0) := ⟨rfl, rfl⟩
  have HE : Hid (mnF n ((seg l a b).take (l.length - a)) = mnF n (seg l a b) ∧ mxF 0 ((seg l a b).take (l.length - a)) = mxF 0 (seg l a b)) := by
    show _ ∧ _
    rw [List.take_of_length_le (by rw [seg_len l a b hb]; omega)]
    exact ⟨rfl, rfl⟩
  obtain ⟨s, hs⟩ : ∃ s : Nat → Int, ∀ k, mnF n ((seg l a b).take k) = s k := ⟨_, fun _ => rfl⟩
  obtain ⟨e, he⟩ : ∃ e : Nat → Int, ∀ k, mxF 0 ((seg l a b).take k) = e k := ⟨_, fun _ => rfl⟩
  simp only [hs, he] at HI H0 HE
  generalize mnF n (seg l a b) = R at *
  generalize mxF 0 (seg l a b) = R2 at *
  clear hs he
  have k1 : ¬ (a : Int) < 0 := by omega
  have k3 : ¬ (l.length : Int) < (b : Int) := by omega
  have k4 : (0 : Int) ≤ (a : Int) := by omega
  have k5 : (a : Int) ≤ (l.length : Int) := by omega
  have k6 : (l.length : Int) ≤ (cap : Int) := by omega
  have k2 : ¬ (b : Int) < (a : Int) := by omega
  have k7 : ¬ (a : Int) = (b : Int) := by omega
  generalize hW0 : w.alloc (.cells #[.int .i64 0, .int .i64 0] 41) = W0 at *
  clear h1 h2 h3 BA0 nb hcells
  generalize l.length = N at *
  go_enter Tryz.func18, Tryz.ntmps18
  go_wp2
  try rw [hW0]
  clear c0 c1
  generalize hM : N - a = M at *
  have hM1 : M ≤ 100000 := by omega
  have HMM : Hid (N - a = M) := hM
  clear hM
  have ha1 : a ≤ 100000 := by omega
  have hb1 : b ≤ 100000 := by omega
  go_loopw [7, 8, 40] (fun u v i wr => ∃ k : Nat, k ≤ M ∧ i = .int .i64 k ∧ u = .int .i64 (s k) ∧ v = .int .i64 (e k) ∧ Hid (wr.heap[w.heap.size]? = some (.cells #[.int .i64 0, .int .i64 0] 41 (0, 0))) ∧ Hid (Below w.heap.size w wr)) (fun _ _ i _ => M - (RowKit.intOf i).toNat)
  case atStart => exact ⟨0, Nat.zero_le _, rfl, by rw [H0.out.1], by first | rfl | rw [H0.out.2], HR, HBA⟩
  case round =>
    clear HR HBA hW0
    obtain ⟨k, hk, rfl, rfl, rfl, HRR, HB⟩ := hrel
    by_cases hlt : k < M
    · obtain ⟨x1, x2, x3, d1, d2, d3, htk⟩ := HI.out k hlt
      rw [show (a + k) * 3 = a * 3 + k * 3 by omega] at d1 d2 d3
      have f1 := cell_below HB.out d1
      have f2 := cell_below HB.out d2
      have f3 := cell_below HB.out d3
      have hlt' : (k : Int) < (M : Int) := by omega
      have hk0 : (0 : Int) ≤ (k : Int) := by omega
      have HTK : Hid (if a + k < b then s (k + 1) = min (s k) x2 ∧ e (k + 1) = max (e k) x3 else s (k + 1) = s k ∧ e (k + 1) = e k) := htk
      have ba' : Below wr.heap.size wr (wr.alloc (.cells #[.int .i64 x1, .int .i64 x2, .int .i64 x3] 30)) := (Below.refl _ wr).alloc (Nat.le_refl _) _
      have HRX : Hid ((wr.alloc (.cells #[.int .i64 x1, .int .i64 x2, .int .i64 x3] 30)).heap[w.heap.size]? = some (.cells #[.int .i64 0, .int .i64 0] 41 (0, 0))) := (ba'.block _ (Array.getElem?_eq_some_iff.1 HRR.out).1).trans HRR.out
      have HBX : Hid (Below w.heap.size w (wr.alloc (.cells #[.int .i64 x1, .int .i64 x2, .int .i64 x3] 30))) := HB.out.alloc HB.out.size _
      have nI := World.alloc_heap_new wr (.cells #[.int .i64 x1, .int .i64 x2, .int .i64 x3] 30)
      generalize hWA : wr.alloc (.cells #[.int .i64 x1, .int .i64 x2, .int .i64 x3] 30) = WA at *
      have g1 := cell_of_row WA wr.heap.size 1 _ _ _ nI
      have g2 := cell_of_row WA wr.heap.size 2 _ _ _ nI
      simp at g1 g2
      clear HRR HB d1 d2 d3 nI ba' htk
      by_cases hkb : a + k < b
      · have t1 : (a : Int) + (k : Int) < (b : Int) := by omega
        have HT1 : Hid (s (k + 1) = min (s k) x2 ∧ e (k + 1) = max (e k) x3) := by have := HTK.out; rw [if_pos hkb] at this; exact this
        go_wp2
        try rw [hWA]
        go_roundw
        case rel => exact ⟨k + 1, by omega, by go_num, by rw [HT1.out.1], by rw [HT1.out.2], HRX, HBX⟩
        case measure => simp [RowKit.intOf]; omega
      · have t1 : ¬ (a : Int) + (k : Int) < (b : Int) := by omega
        have HT1 : Hid (s (k + 1) = s k ∧ e (k + 1) = e k) := by have := HTK.out; rw [if_neg hkb] at this; exact this
        go_wp2
        try rw [hWA]
        go_roundw
        case rel => exact ⟨k + 1, by omega, by go_num, by rw [HT1.out.1], by rw [HT1.out.2], HRX, HBX⟩
        case measure => simp [RowKit.intOf]; omega
    · obtain rfl : k = M := by omega
      have hlt' : ¬ (k : Int) < (k : Int) := by omega
      have HEE : Hid (s k = R ∧ e k = R2) := HE
      have nR := HRR.out
      have HBF : Hid (∀ u v, Below w.heap.size w ((wr.setCell ⟨w.heap.size, 0, none⟩ u).setCell ⟨w.heap.size, 1, none⟩ v)) := fun u v => (HB.out.setCell (Nat.le_refl _) _).setCell (Nat.le_refl _) _
      have s3 := cell_of_row wr w.heap.size 0 _ _ _ nR
      have s4 := cell_of_row wr w.heap.size 1 _ _ _ nR
      have q3 := frozen_of_row wr w.heap.size 0 _ _ nR
      have q4 := frozen_of_row wr w.heap.size 1 _ _ nR
      simp at s3 s4
      have HNR : Hid (wr.heap[w.heap.size]? = some (.cells #[.int .i64 0, .int .i64 0] 41 (0, 0))) := nR
      clear HRR HB nR
      go_wp2
      try rw [Exit.noGoto_ret]
      refine bodyPost_ret (results_cell_row Tryz.results18 _ _ w.heap.size _ _ _ _ rfl (row2_set HNR.out _ _) Tryz.underlying41 rfl infoSpan) rfl ?_
      exact ⟨by rw [HEE.out.1, HEE.out.2], HBF.out _ _⟩
set_option maxHeartbeats 2000000 in
set_option maxRecDepth 1000000 in
theorem rspan_end (x base n : Nat) (f : Nat → Int) (l : List nfd.I) (w : World) (bv : Value) (g cap : Nat) (h1 : w.heap[x]? = some (.cells #[bv, .slice (some ⟨g, 0, none⟩) l.length cap] 33 (0, 0))) (h2 : w.ownsRow base 5 1 bv n ((lst f n).map (Value.int .u8))) (hcap : l.length ≤ cap) (hmax : cap ≤ 9223372036854775807) (hn : n ≤ 100000) (hl : l.length ≤ 100000) :
    Calls Tryz.prog 18 #[.pointer (some ⟨x, 0, none⟩), .int .i64 (l.length : Int), .int .i64 (l.length : Int)] w fun e w' => e = .returned (.agg #[.int .i64 n, .int .i64 n]) ∧ Below w.heap.size w w' := by
  have BA0 : Below w.heap.size w (w.alloc (.cells #[.int .i64 0, .int .i64 0] 41)) := (Below.refl _ w).alloc (Nat.le_refl _) _
  obtain ⟨ba, bc, rfl⟩ := lin.own_slice h2
  have c0 := cell_of_row w x 0 _ _ _ h1
  have c1 := cell_of_row w x 1 _ _ _ h1
  simp at c0 c1
  have c0 := cell_below BA0 c0
  have c1 := cell_below BA0 c1
  have nb := World.alloc_heap_new w (.cells #[.int .i64 0, .int .i64 0] 41)
  have HBA : Hid (Below w.heap.size w (w.alloc (.cells #[.int .i64 0, .int .i64 0] 41))) := BA0
  have HR : Hid ((w.alloc (.cells #[.int .i64 0, .int .i64 0] 41)).heap[w.heap.size]? = some (.cells #[.int .i64 0, .int .i64 0] 41 (0, 0))) := nb
  generalize hW0 : w.alloc (.cells #[.int .i64 0, .int .i64 0] 41) = W0 at *
  clear h1 h2 BA0 nb
  have HRR := HR
  have HB := HBA
  clear HR HBA
  have nR := HRR.out
  have HBF : Hid (∀ u v, Below w.heap.size w ((W0.setCell ⟨w.heap.size, 0, none⟩ u).setCell ⟨w.heap.size, 1, none⟩ v)) := fun u v => (HB.out.setCell (Nat.le_refl _) _).setCell (Nat.le_refl _) _
  have s3 := cell_of_row W0 w.heap.size 0 _ _ _ nR
  have s4 := cell_of_row W0 w.heap.size 1 _ _ _ nR
  have q3 := frozen_of_row W0 w.heap.size 0 _ _ nR
  have q4 := frozen_of_row W0 w.heap.size 1 _ _ nR
  simp at s3 s4
  have HNR : Hid (W0.heap[w.heap.size]? = some (.cells #[.int .i64 0, .int .i64 0] 41 (0, 0))) := nR
  clear HRR HB nR
  have k1 : ¬ (l.length : Int) < 0 := by omega
  have k4 : (0 : Int) ≤ (l.length : Int) := by omega
  have k6 : (l.length : Int) ≤ (cap : Int) := by omega
  generalize l.length = N at *
  go_enter Tryz.func18, Tryz.ntmps18
  go_wp2
  all_goals (refine wp_loop_rounds 1 ?_; rw [rounds_succ]; try rw [hW0])
  all_goals go_wp2
  all_goals try rw [Exit.noGoto_ret]
  all_goals refine bodyPost_ret (results_cell_row Tryz.results18 _ _ w.heap.size _ _ _ _ rfl (row2_set HNR.out _ _) Tryz.underlying41 rfl infoSpan) rfl ?_
  all_goals exact ⟨rfl, HBF.out _ _⟩
theorem rspan_t (x base n : Nat) (f : Nat → Int) (l : List nfd.I) (a b : Int) (w : World) (h : RTxt w base x n f l) (hl : l.length ≤ 100000) (hn : n ≤ 100000) :
    Calls Tryz.prog 18 #[.pointer (some ⟨x, 0, none⟩), .int .i64 a, .int .i64 b] w fun e w' => e = .returned (spV (spanP n l a b)) ∧ Below w.heap.size w w' := by
  by_cases hout : a < 0 ∨ b < a ∨ (l.length : Int) < b
  · refine (rspan_out x base n f l a b w h hout).mono ?_
    rintro e w' ⟨rfl, hb⟩
    refine ⟨?_, hb⟩
    unfold spanP spV
    rw [if_pos hout]
  · obtain ⟨a', rfl⟩ : ∃ a' : Nat, a = (a' : Int) := ⟨a.toNat, by omega⟩
    obtain ⟨b', rfl⟩ : ∃ b' : Nat, b = (b' : Int) := ⟨b.toNat, by omega⟩
    obtain ⟨bv, iv, h1, h2, h3⟩ := h.all
    have h3' := h3.2
    rcases h3' with ⟨rfl, h0⟩ | ⟨g, cap, cur, rfl, _, _, hc, hm, _⟩
    · obtain rfl := List.eq_nil_of_length_eq_zero h0
      rw [List.length_nil] at hout
      obtain rfl : a' = 0 := by omega
      obtain rfl : b' = 0 := by omega
      refine (rspan_nil x base n f w bv hn h1 h2).mono ?_
      rintro e w' ⟨rfl, hb⟩
      exact ⟨rfl, hb⟩
    · unfold maxLen at hm
      by_cases hab : a' = b'
      · subst hab
        rcases Nat.lt_or_ge a' l.length with ha | ha
        · refine (rspan_same x base n f l a' w bv g cap h1 h2 h3 hc (by omega) hn hl ha).mono ?_
          rintro e w' ⟨rfl, hb⟩
          refine ⟨?_, hb⟩
          unfold spanP spV
          rw [if_neg hout, if_pos rfl, Int.toNat_natCast, ls_mn]
        · obtain rfl : a' = l.length := by omega
          refine (rspan_end x base n f l w bv g cap h1 h2 hc (by omega) hn hl).mono ?_
          rintro e w' ⟨rfl, hb⟩
          refine ⟨?_, hb⟩
          unfold spanP spV
          rw [if_neg hout, if_pos rfl, Int.toNat_natCast, List.drop_of_length_le (Nat.le_refl _)]
          rfl
      · refine (rspan_some x base n f l a' b' w bv g cap h1 h2 h3 hc (by omega) hn hl (by omega) (by omega)).mono ?_
        rintro e w' ⟨rfl, hb⟩
        refine ⟨?_, hb⟩
        unfold spanP spV
        rw [if_neg hout, if_neg (by omega), Int.toNat_natCast, Int.toNat_natCast]
end Go.Proofs.YtlidgjkipbijlaaGreatDoor.itm
end
