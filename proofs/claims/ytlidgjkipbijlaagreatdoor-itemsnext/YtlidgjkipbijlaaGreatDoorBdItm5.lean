/- Texts that the proof leans on, one behind the other. -/
import Derived.Test.YtlidgjkipbijlaaGreatDoorBdItm4

section
/- ItemsNext: the walk. -/
set_option linter.unusedVariables false
set_option linter.unusedSimpArgs false
namespace Go.Proofs.YtlidgjkipbijlaaGreatDoor.itm
open Go.RowKit Go.Shelf nrm prp
open Go.Proofs.YtlidgjkipbijlaaGreatDoor.utf (IsB lst)

set_option maxHeartbeats 2000000 in
set_option maxRecDepth 1000000 in
theorem next_walk (v : Value) (N : Nat) (f : Nat → Int) (c : Bool) (a : Int) (w : World) (h : ArgB w v N f) (E : Env w) :
    Calls Tryz.prog 7 #[v, .bool c, .int .i64 a] w fun e w' => e = .returned (.bool true) ∧ Below w.heap.size w w' := by
  obtain ⟨n, hn⟩ : ∃ n, min N 300 = n := ⟨_, rfl⟩
  have hn3 : n ≤ 300 := by omega
  have C := both_any v N n f c w h hn E
  have HF : Hid (Fine n (itemsL c f n)) := items_fine c f n h.fine
  have HL : Hid ((itemsL c f n).length ≤ 2700) := len300 c f n hn3
  clear h E hn
  go_enter Tryz.func7, Tryz.ntmps7
  go_wp2_with fail
  refine C.mono ?_
  rintro e w1 ⟨x, y, rfl, hx, hy, b1⟩
  clear C
  have HB1 : Hid (Below w.heap.size w w1) := b1
  have HY : Hid (RTxt w1 w.heap.size y n f (itemsL c f n)) := hy
  have C := after_t x w.heap.size n f (itemsL c f n) a w1 hx (by have := HL.out; omega) HF.out
  clear hx hy b1
  go_wp2_with fail
  refine C.mono ?_
  rintro e w2 ⟨rfl, b2⟩
  clear C
  have HB2 : Hid (Below w.heap.size w w2) := HB1.out.trans (b2.mono HB1.out.size)
  obtain ⟨bv, iv, h1, h2, h3⟩ := (HY.out.below b2).all
  clear b2 HB1 HY
  obtain ⟨l, hl⟩ : ∃ l, itemsL c f n = l := ⟨_, rfl⟩
  rw [hl] at HL HF h3 ⊢
  clear hl
  have HLE : Hid (aft a l ≤ l.length) := aft_le a l
  have hle := aft_le a l
  have hl2 := HL.out
  have HBH : Hid (∀ k y, aft a l ≤ k → l[k]? = some y → ¬ y.2.1 < a) := fun k y => aft_behind
  have HAH : Hid (∀ k, aft a l = k + 1 → ∃ y, l[k]? = some y ∧ y.2.1 < a) := fun k => aft_ahead
  rcases h3.2 with ⟨rfl, h0⟩ | ⟨g, cap, cur, rfl, _, _, hc, hm, _⟩
  · have c1 := cell_of_row w2 y 1 _ _ _ h1
    simp at c1
    have e0 : aft a l = 0 := by omega
    rw [e0]
    clear h1 h2 h3 HLE HBH HAH hle e0 HF HL
    go_wp2
    refine wp_loop_rounds 1 ?_
    rw [rounds_succ]
    go_wp2
    go_ret
    exact ⟨rfl, HB2.out⟩
  · have c1 := cell_of_row w2 y 1 _ _ _ h1
    simp at c1
    unfold maxLen at hm
    have hcells : ∀ k y, l[k]? = some y → w2.cell? ⟨g, k * 3, none⟩ = some (.int .i64 y.1) ∧ w2.cell? ⟨g, k * 3 + 1, none⟩ = some (.int .i64 y.2.1) ∧ w2.cell? ⟨g, k * 3 + 2, none⟩ = some (.int .i64 y.2.2) := by
      intro k y hy
      obtain ⟨_, _, ev, hc⟩ := h3.iv
      injection ev with e1 e2 e3
      obtain ⟨b', o, e4, hc⟩ := hc (by have := (List.getElem?_eq_some_iff.1 hy).1; omega)
      rw [← e1] at e4
      injection e4 with e4
      injection e4 with e5 e6
      subst e5 e6
      have := hc k y hy
      simpa using this
    have HI : Hid (∀ k, k < l.length - aft a l → ∃ x1 x2 x3, w2.cell? ⟨g, (aft a l + k) * 3, none⟩ = some (.int .i64 x1) ∧ w2.cell? ⟨g, (aft a l + k) * 3 + 1, none⟩ = some (.int .i64 x2) ∧ w2.cell? ⟨g, (aft a l + k) * 3 + 2, none⟩ = some (.int .i64 x3) ∧ ¬ x2 < a) := fun k hk => by
      obtain ⟨y, hy⟩ : ∃ y, l[aft a l + k]? = some y := ⟨_, List.getElem?_eq_getElem (by omega)⟩
      obtain ⟨d1, d2, d3⟩ := hcells _ _ hy
      exact ⟨y.1, y.2.1, y.2.2, d1, d2, d3, HBH.out _ _ (by omega) hy⟩
    have HJ : Hid (0 < aft a l → ∃ x2, w2.cell? ⟨g, (aft a l - 1) * 3 + 1, none⟩ = some (.int .i64 x2) ∧ x2 < a) := fun h0 => by
      obtain ⟨y, hy, hy2⟩ := HAH.out (aft a l - 1) (by omega)
      exact ⟨_, (hcells _ _ hy).2.1, hy2⟩
    have HX : Hid (w2.cell? ⟨y, 1, none⟩ = some (.slice (some ⟨g, 0, none⟩) l.length cap)) := c1
    clear h1 h2 h3 HLE HBH HAH hcells HF HL
    generalize aft a l = A at *
    generalize l.length = M at *
    have k1 : ¬ (A : Int) < 0 := by omega
    have k2 : ¬ (M : Int) < (A : Int) := by omega
    have k3 : (0 : Int) ≤ (A : Int) := by omega
    have k4 : (A : Int) ≤ (M : Int) := by omega
    have k5 : (M : Int) ≤ (cap : Int) := by omega
    rcases Nat.lt_or_ge A M with hlt0 | hge
    · go_wp2
      generalize hM : M - A = D at *
      have hD : D ≤ 2700 := by omega
      have HMM : Hid (M - A = D) := hM
      clear hM c1
      have HBW : Hid (Below w2.heap.size w2 w2) := Below.refl _ _
      go_loopw [43] (fun i wr => ∃ k : Nat, k ≤ D ∧ i = .int .i64 k ∧ Hid (Below w2.heap.size w2 wr)) (fun i _ => D - (RowKit.intOf i).toNat)
      case atStart => exact ⟨0, Nat.zero_le _, rfl, HBW⟩
      case round =>
        clear HBW
        obtain ⟨k, hk, rfl, HB⟩ := hrel
        by_cases hlt : k < D
        · obtain ⟨x1, x2, x3, d1, d2, d3, hx2⟩ := HI.out k hlt
          rw [show (A + k) * 3 = A * 3 + k * 3 by omega] at d1 d2 d3
          have f1 := cell_below HB.out d1
          have f2 := cell_below HB.out d2
          have f3 := cell_below HB.out d3
          have hlt' : (k : Int) < (D : Int) := by omega
          have hk0 : (0 : Int) ≤ (k : Int) := by omega
          have HBX : Hid (Below w2.heap.size w2 (wr.alloc (.cells #[.int .i64 x1, .int .i64 x2, .int .i64 x3] 30))) := HB.out.alloc HB.out.size _
          have nI := World.alloc_heap_new wr (.cells #[.int .i64 x1, .int .i64 x2, .int .i64 x3] 30)
          generalize hWA : wr.alloc (.cells #[.int .i64 x1, .int .i64 x2, .int .i64 x3] 30) = WA at *
          have g1 := cell_of_row WA wr.heap.size 1 _ _ _ nI
          simp at g1
          clear HB d1 d2 d3 nI
          go_wp2
          try rw [hWA]
          go_roundw
          case rel => exact ⟨k + 1, by omega, by go_num, HBX⟩
          case measure => simp [RowKit.intOf]; omega
        · obtain rfl : k = D := by omega
          have hlt' : ¬ (k : Int) < (k : Int) := by omega
          have HBF : Hid (Below w.heap.size w wr) := HB2.out.trans (HB.out.mono HB2.out.size)
          have c1 := cell_below HB.out HX.out
          by_cases hA0 : A = 0
          · subst hA0
            clear HI HJ HMM HB
            go_wp2
            go_ret
            exact ⟨rfl, HBF.out⟩
          · obtain ⟨x2, j1, j2⟩ := HJ.out (by omega)
            have j1 := cell_below HB.out j1
            clear HI HJ HMM HB
            obtain ⟨B, rfl⟩ : ∃ B, A = B + 1 := ⟨A - 1, by omega⟩
            rw [Nat.add_sub_cancel] at j1
            have z1 : (0 : Int) ≤ (B : Int) := by omega
            have z2 : (B : Int) < (M : Int) := by omega
            have z3 : (B : Int) + 1 - 1 = (B : Int) := by omega
            have z4 : ((B : Int) + 1 == 0) = false := by rw [beq_eq_false_iff_ne]; omega
            go_wp2
            go_ret
            exact ⟨by simp [j2], HBF.out⟩
    · obtain rfl : A = M := by omega
      clear HI
      by_cases hA0 : A = 0
      · subst hA0
        clear HJ
        go_wp2
        all_goals (refine wp_loop_rounds 1 ?_; rw [rounds_succ])
        all_goals go_wp2
        all_goals go_ret
        all_goals exact ⟨rfl, HB2.out⟩
      · obtain ⟨x2, j1, j2⟩ := HJ.out (by omega)
        clear HJ
        obtain ⟨B, rfl⟩ : ∃ B, A = B + 1 := ⟨A - 1, by omega⟩
        rw [Nat.add_sub_cancel] at j1
        have z1 : (0 : Int) ≤ (B : Int) := by omega
        have z2 : (B : Int) < (B : Int) + 1 := by omega
        have z3 : (B : Int) + 1 - 1 = (B : Int) := by omega
        have z4 : ((B : Int) + 1 == 0) = false := by rw [beq_eq_false_iff_ne]; omega
        go_wp2
        all_goals (refine wp_loop_rounds 1 ?_; rw [rounds_succ])
        all_goals go_wp2
        all_goals go_ret
        all_goals exact ⟨by simp [j2], HB2.out⟩
end Go.Proofs.YtlidgjkipbijlaaGreatDoor.itm
end
