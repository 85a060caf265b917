/- ItemsNobody: a subject, and tables, that no call made. -/
import Derived.Test.YtlidgjkipbijlabRows
import Derived.WalkSmall
import Derived.Handy
import Derived.Laws.Rows
import Derived.Laws.ResultCell
import Derived.OpenShut
import Derived.ProofKit
import Derived.RangeFuncRecord
set_option linter.unusedVariables false
set_option linter.unusedSimpArgs false
namespace Go.Proofs.Ytlidgjkipbijlab.itm
open Go.RowKit Go.ChangeShapes Go.WideShapes Go.ChangeAt

theorem cell_below {w w' : World} {a : Addr} {v : Value} (hb : Below w.heap.size w w') (h : w.cell? a = some v) : w'.cell? a = some v := (hb.cell (World.block_lt_of_cell? w _ h)).trans h
def Unmade (w : World) (v : Value) : Prop := v = .pointer none ∨ ∃ t, v = .pointer (some ⟨t, 0, none⟩) ∧ w.cell? ⟨t, 0, none⟩ = some (.pointer none)
def UnT (w : World) (v : Value) : Prop := v = .pointer none ∨ ∃ t, v = .pointer (some ⟨t, 0, none⟩) ∧ w.cell? ⟨t, 2, none⟩ = some (.slice none 0 0)
theorem Unmade.below {w w' : World} {v : Value} (h : Unmade w v) (hb : Below w.heap.size w w') : Unmade w' v := by
  rcases h with h | ⟨t, h1, h2⟩
  · exact .inl h
  · exact .inr ⟨t, h1, cell_below hb h2⟩
theorem UnT.below {w w' : World} {v : Value} (h : UnT w v) (hb : Below w.heap.size w w') : UnT w' v := by
  rcases h with h | ⟨t, h1, h2⟩
  · exact .inl h
  · exact .inr ⟨t, h1, cell_below hb h2⟩
set_option maxRecDepth 1000000 in
theorem made_no (v : Value) (w : World) (h : Unmade w v) : Calls Try.prog 20 #[v] w fun e w' => e = .returned (.bool false) ∧ w' = w := by
  rcases h with rfl | ⟨t, rfl, h⟩
  all_goals go_enter Try.func20, Try.ntmps20
  all_goals go_wp2
  all_goals go_ret
  all_goals exact ⟨rfl, rfl⟩
set_option maxRecDepth 1000000 in
theorem imade_no (v : Value) (w : World) (h : UnT w v) : Calls Try.prog 10 #[v] w fun e w' => e = .returned (.bool false) ∧ w' = w := by
  rcases h with rfl | ⟨x, rfl, c2⟩
  all_goals go_enter Try.func10, Try.ntmps10
  all_goals go_wp2
  all_goals go_ret
  all_goals exact ⟨rfl, rfl⟩
set_option maxRecDepth 1000000 in
theorem category_no (v : Value) (r : Int) (w : World) (h : Unmade w v) : Calls Try.prog 14 #[v, .int .i64 r] w fun e w' => e = .returned (.string ⟨#[]⟩) ∧ w' = w := by
  have C := made_no v w h
  go_enter Try.func14, Try.ntmps14
  go_wp2_with fail
  refine C.mono ?_
  rintro e w1 ⟨rfl, hw⟩
  rw [hw]
  go_wp2
  go_ret
  exact ⟨rfl, rfl⟩
set_option maxRecDepth 1000000 in
theorem new_no (v b : Value) (c : Bool) (w : World) (h : Unmade w v) : Calls Try.prog 9 #[v, b, .bool c] w fun e w' => e = .returned (.tuple #[.pointer none, .int .i64 2]) ∧ w' = w := by
  have C := category_no v 0 w h
  go_enter Try.func9, Try.ntmps9
  go_wp2_with fail
  refine C.mono ?_
  rintro e w1 ⟨rfl, hw⟩
  rw [hw]
  go_wp2
  go_ret2
  exact ⟨rfl, rfl⟩
set_option maxRecDepth 1000000 in
theorem items_no (v : Value) (w : World) (h : UnT w v) : Calls Try.prog 6 #[v] w fun e w' => e = .returned (.slice none 0 0) ∧ w' = w := by
  have C := imade_no v w h
  go_enter Try.func6, Try.ntmps6
  go_wp2_with fail
  refine C.mono ?_
  rintro e w1 ⟨rfl, hw⟩
  rw [hw]
  go_wp2
  go_ret
  exact ⟨rfl, rfl⟩
set_option maxRecDepth 1000000 in
theorem runes_no (v : Value) (w : World) (h : UnT w v) : Calls Try.prog 7 #[v] w fun e w' => e = .returned (.slice none 0 0) ∧ w' = w := by
  have C := imade_no v w h
  go_enter Try.func7, Try.ntmps7
  go_wp2_with fail
  refine C.mono ?_
  rintro e w1 ⟨rfl, hw⟩
  rw [hw]
  go_wp2
  go_ret
  exact ⟨rfl, rfl⟩
set_option maxRecDepth 1000000 in
theorem bytes_no (v : Value) (w : World) (h : UnT w v) : Calls Try.prog 8 #[v] w fun e w' => e = .returned (.slice none 0 0) ∧ w' = w := by
  have C := imade_no v w h
  go_enter Try.func8, Try.ntmps8
  go_wp2_with fail
  refine C.mono ?_
  rintro e w1 ⟨rfl, hw⟩
  rw [hw]
  go_wp2
  go_ret
  exact ⟨rfl, rfl⟩
set_option maxRecDepth 1000000 in
theorem after_no (v : Value) (a : Int) (w : World) (h : UnT w v) : Calls Try.prog 5 #[v, .int .i64 a] w fun e w' => e = .returned (.int .i64 0) ∧ w' = w := by
  have C := imade_no v w h
  go_enter Try.func5, Try.ntmps5
  go_wp2_with fail
  refine C.mono ?_
  rintro e w1 ⟨rfl, hw⟩
  rw [hw]
  go_wp2
  go_ret
  exact ⟨rfl, rfl⟩
theorem infoSpan : (Try.prog.info? 30).map (·.size) = some 2 := by kernel_rfl
theorem row2_set {w : World} {g : Nat} {t : TypeId} {a b : Value} (h : w.heap[g]? = some (.cells #[a, b] t)) (x y : Value) :
    ((w.setCell ⟨g, 0, none⟩ x).setCell ⟨g, 1, none⟩ y).heap[g]? = some (.cells #[x, y] t) := by
  have h1 := heap_setCell_same w g 0 _ t x h
  have h2 := heap_setCell_same _ g 1 _ t y h1
  simpa using h2
set_option maxHeartbeats 1000000 in
set_option maxRecDepth 1000000 in
theorem span_no (v : Value) (a b : Int) (w : World) (h : UnT w v) : Calls Try.prog 4 #[v, .int .i64 a, .int .i64 b] w fun e w' => e = .returned (.agg #[.int .i64 0, .int .i64 0]) ∧ Below w.heap.size w w' := by
  have BA0 : Below w.heap.size w (w.alloc (.cells #[.int .i64 0, .int .i64 0] 30)) := (Below.refl _ w).alloc (Nat.le_refl _) _
  have C := imade_no v _ (h.below BA0)
  have nb := World.alloc_heap_new w (.cells #[.int .i64 0, .int .i64 0] 30)
  have HBF : Hid (∀ u v, Below w.heap.size w (((w.alloc (.cells #[.int .i64 0, .int .i64 0] 30)).setCell ⟨w.heap.size, 0, none⟩ u).setCell ⟨w.heap.size, 1, none⟩ v)) := fun u v => (BA0.setCell (Nat.le_refl _) _).setCell (Nat.le_refl _) _
  clear h BA0
  generalize hW0 : w.alloc (.cells #[.int .i64 0, .int .i64 0] 30) = W0 at *
  have HNR : Hid (W0.heap[w.heap.size]? = some (.cells #[.int .i64 0, .int .i64 0] 30 (0, 0))) := nb
  have s3 := cell_of_row W0 w.heap.size 0 _ _ _ nb
  have s4 := cell_of_row W0 w.heap.size 1 _ _ _ nb
  have q3 := frozen_of_row W0 w.heap.size 0 _ _ nb
  have q4 := frozen_of_row W0 w.heap.size 1 _ _ nb
  simp at s3 s4
  clear nb
  go_enter Try.func4, Try.ntmps4
  go_wp2_with fail
  refine C.mono ?_
  rintro e w1 ⟨rfl, hw⟩
  rw [hw]
  clear C hw w1
  go_wp2
  try rw [Exit.noGoto_ret]
  refine bodyPost_ret (results_cell_row Try.results4 _ _ w.heap.size _ _ _ _ rfl (row2_set HNR.out _ _) Try.underlying30 rfl infoSpan) rfl ?_
  exact ⟨rfl, HBF.out _ _⟩
set_option maxHeartbeats 4000000 in
set_option maxRecDepth 1000000 in
theorem nobody_walk (v : Value) (a b : Int) (w : World) : Calls Try.prog 3 #[v, .int .i64 a, .int .i64 b] w fun e w' => e = .returned (.bool true) ∧ Below w.heap.size w w' := by
  have HB0 : Hid (Below w.heap.size w ((w.alloc (.cells #[.slice none 0 0, .slice none 0 0, .slice none 0 0] 27)).alloc (.cells #[.pointer none, .pointer (some ⟨w.heap.size, 0, none⟩)] 23))) := ((Below.refl _ w).alloc (Nat.le_refl _) _).alloc (by simp) _
  have nb0 : ((w.alloc (.cells #[.slice none 0 0, .slice none 0 0, .slice none 0 0] 27)).alloc (.cells #[.pointer none, .pointer (some ⟨w.heap.size, 0, none⟩)] 23)).heap[w.heap.size]? = some (.cells #[.slice none 0 0, .slice none 0 0, .slice none 0 0] 27 (0, 0)) := by
    rw [Below.heap_alloc _ _ _ (by simp)]; exact World.alloc_heap_new _ _
  have nb1 : ((w.alloc (.cells #[.slice none 0 0, .slice none 0 0, .slice none 0 0] 27)).alloc (.cells #[.pointer none, .pointer (some ⟨w.heap.size, 0, none⟩)] 23)).heap[w.heap.size + 1]? = some (.cells #[.pointer none, .pointer (some ⟨w.heap.size, 0, none⟩)] 23 (0, 0)) := by
    have := World.alloc_heap_new (w.alloc (.cells #[.slice none 0 0, .slice none 0 0, .slice none 0 0] 27)) (.cells #[.pointer none, .pointer (some ⟨w.heap.size, 0, none⟩)] 23)
    simpa using this
  generalize hW : (w.alloc (.cells #[.slice none 0 0, .slice none 0 0, .slice none 0 0] 27)).alloc (.cells #[.pointer none, .pointer (some ⟨w.heap.size, 0, none⟩)] 23) = W at *
  have d0 := cell_of_row W (w.heap.size + 1) 0 _ _ _ nb1
  have d1 := cell_of_row W (w.heap.size + 1) 1 _ _ _ nb1
  have d2 := cell_of_row W w.heap.size 2 _ _ _ nb0
  simp at d0 d1 d2
  have U1 : Hid (UnT W (.pointer none)) := .inl rfl
  have U2 : Hid (UnT W (.pointer (some ⟨w.heap.size, 0, none⟩))) := .inr ⟨_, rfl, d2⟩
  have H0 : Hid (W.cell? ⟨w.heap.size + 1, 0, none⟩ = some (.pointer none)) := d0
  have H1 : Hid (W.cell? ⟨w.heap.size + 1, 1, none⟩ = some (.pointer (some ⟨w.heap.size, 0, none⟩))) := d1
  clear nb0 nb1 d0 d1 d2
  go_enter Try.func3, Try.ntmps3
  go_wp2
  try rw [hW]
  clear hW
  obtain ⟨sb, hsb⟩ : ∃ sb, w.heap.size + 1 = sb := ⟨_, rfl⟩
  rw [hsb] at H0 H1 ⊢
  clear hsb
  have HBW : Hid (Below W.heap.size W W) := Below.refl _ _
  go_loopw [17] (fun i wr => ∃ k : Nat, k ≤ 2 ∧ i = .int .i64 k ∧ Hid (Below W.heap.size W wr)) (fun i _ => 2 - (RowKit.intOf i).toNat)
  case atStart => exact ⟨0, by omega, rfl, HBW⟩
  case round =>
    clear HBW
    obtain ⟨k, hk, rfl, HB⟩ := hrel
    have c0 := cell_below HB.out H0.out
    have c1 := cell_below HB.out H1.out
    rcases (show k = 0 ∨ k = 1 ∨ k = 2 by omega) with rfl | rfl | rfl
    · skip
      have C := span_no (.pointer none) a b wr (U1.out.below HB.out)
      go_wp2_with fail
      refine C.mono ?_
      rintro e w2 ⟨rfl, b2⟩
      clear C
      have HB2 : Hid (Below W.heap.size W w2) := HB.out.trans (b2.mono HB.out.size)
      clear b2 HB
      have C := after_no (.pointer none) a w2 (U1.out.below HB2.out)
      go_wp2_with fail
      refine C.mono ?_
      rintro e w3 ⟨rfl, hw⟩
      subst hw
      clear C
      have C := items_no (.pointer none) w3 (U1.out.below HB2.out)
      go_wp2_with fail
      refine C.mono ?_
      rintro e w4 ⟨rfl, hw⟩
      subst hw
      clear C
      have C := runes_no (.pointer none) w4 (U1.out.below HB2.out)
      go_wp2_with fail
      refine C.mono ?_
      rintro e w5 ⟨rfl, hw⟩
      subst hw
      clear C
      have C := bytes_no (.pointer none) w5 (U1.out.below HB2.out)
      go_wp2_with fail
      refine C.mono ?_
      rintro e w6 ⟨rfl, hw⟩
      subst hw
      clear C
      go_wp2
      go_roundw
      case rel => exact ⟨1, by omega, rfl, HB2⟩
      case measure => simp [RowKit.intOf]
    · skip
      have C := span_no (.pointer (some ⟨w.heap.size, 0, none⟩)) a b wr (U2.out.below HB.out)
      go_wp2_with fail
      refine C.mono ?_
      rintro e w2 ⟨rfl, b2⟩
      clear C
      have HB2 : Hid (Below W.heap.size W w2) := HB.out.trans (b2.mono HB.out.size)
      clear b2 HB
      have C := after_no (.pointer (some ⟨w.heap.size, 0, none⟩)) a w2 (U2.out.below HB2.out)
      go_wp2_with fail
      refine C.mono ?_
      rintro e w3 ⟨rfl, hw⟩
      subst hw
      clear C
      have C := items_no (.pointer (some ⟨w.heap.size, 0, none⟩)) w3 (U2.out.below HB2.out)
      go_wp2_with fail
      refine C.mono ?_
      rintro e w4 ⟨rfl, hw⟩
      subst hw
      clear C
      have C := runes_no (.pointer (some ⟨w.heap.size, 0, none⟩)) w4 (U2.out.below HB2.out)
      go_wp2_with fail
      refine C.mono ?_
      rintro e w5 ⟨rfl, hw⟩
      subst hw
      clear C
      have C := bytes_no (.pointer (some ⟨w.heap.size, 0, none⟩)) w5 (U2.out.below HB2.out)
      go_wp2_with fail
      refine C.mono ?_
      rintro e w6 ⟨rfl, hw⟩
      subst hw
      clear C
      go_wp2
      go_roundw
      case rel => exact ⟨2, by omega, rfl, HB2⟩
      case measure => simp [RowKit.intOf]
    · clear c0 c1 H0 H1 U1 U2
      have HBR : Hid (Below w.heap.size w wr) := HB0.out.trans (HB.out.mono HB0.out.size)
      clear HB HB0
      have HB3 : Hid (Below w.heap.size w ((wr.alloc (.cells #[.pointer none, .slice none 0 0, .pointer none, .slice none 0 0, .pointer none, .slice none 0 0, .pointer none, .slice none 0 0, .pointer none, .slice none 0 0, .map none, .map none, .map none, .map none] 47)).alloc (.cells #[.pointer none, .pointer (some ⟨wr.heap.size, 0, none⟩)] 36))) := (HBR.out.alloc HBR.out.size _).alloc (by have := HBR.out.size; simp; omega) _
      have nb0 : ((wr.alloc (.cells #[.pointer none, .slice none 0 0, .pointer none, .slice none 0 0, .pointer none, .slice none 0 0, .pointer none, .slice none 0 0, .pointer none, .slice none 0 0, .map none, .map none, .map none, .map none] 47)).alloc (.cells #[.pointer none, .pointer (some ⟨wr.heap.size, 0, none⟩)] 36)).heap[wr.heap.size]? = some (.cells #[.pointer none, .slice none 0 0, .pointer none, .slice none 0 0, .pointer none, .slice none 0 0, .pointer none, .slice none 0 0, .pointer none, .slice none 0 0, .map none, .map none, .map none, .map none] 47 (0, 0)) := by
        rw [Below.heap_alloc _ _ _ (by simp)]; exact World.alloc_heap_new _ _
      have nb1 : ((wr.alloc (.cells #[.pointer none, .slice none 0 0, .pointer none, .slice none 0 0, .pointer none, .slice none 0 0, .pointer none, .slice none 0 0, .pointer none, .slice none 0 0, .map none, .map none, .map none, .map none] 47)).alloc (.cells #[.pointer none, .pointer (some ⟨wr.heap.size, 0, none⟩)] 36)).heap[wr.heap.size + 1]? = some (.cells #[.pointer none, .pointer (some ⟨wr.heap.size, 0, none⟩)] 36 (0, 0)) := by
        have := World.alloc_heap_new (wr.alloc (.cells #[.pointer none, .slice none 0 0, .pointer none, .slice none 0 0, .pointer none, .slice none 0 0, .pointer none, .slice none 0 0, .pointer none, .slice none 0 0, .map none, .map none, .map none, .map none] 47)) (.cells #[.pointer none, .pointer (some ⟨wr.heap.size, 0, none⟩)] 36)
        simpa using this
      generalize hV : (wr.alloc (.cells #[.pointer none, .slice none 0 0, .pointer none, .slice none 0 0, .pointer none, .slice none 0 0, .pointer none, .slice none 0 0, .pointer none, .slice none 0 0, .map none, .map none, .map none, .map none] 47)).alloc (.cells #[.pointer none, .pointer (some ⟨wr.heap.size, 0, none⟩)] 36) = V at *
      have d0 := cell_of_row V (wr.heap.size + 1) 0 _ _ _ nb1
      have d1 := cell_of_row V (wr.heap.size + 1) 1 _ _ _ nb1
      have d2 := cell_of_row V wr.heap.size 0 _ _ _ nb0
      simp at d0 d1 d2
      have U1 : Hid (Unmade V (.pointer none)) := .inl rfl
      have U2 : Hid (Unmade V (.pointer (some ⟨wr.heap.size, 0, none⟩))) := .inr ⟨_, rfl, d2⟩
      clear nb0 nb1 d2
      go_wp2
      try rw [hV]
      clear hV
      refine wp_loop_rounds 3 ?_
      rw [rounds_succ]
      have C := new_no (.pointer none) v true V U1.out
      go_wp2_with fail
      refine C.mono ?_
      rintro e w2 ⟨rfl, hw⟩
      rw [hw]
      clear C hw w2
      go_wp2
      rw [rounds_succ]
      have C := new_no (.pointer (some ⟨wr.heap.size, 0, none⟩)) v true V U2.out
      go_wp2_with fail
      refine C.mono ?_
      rintro e w2 ⟨rfl, hw⟩
      rw [hw]
      clear C hw w2
      go_wp2
      rw [rounds_succ]
      go_wp2
      go_ret
      exact ⟨rfl, HB3.out⟩
end Go.Proofs.Ytlidgjkipbijlab.itm
