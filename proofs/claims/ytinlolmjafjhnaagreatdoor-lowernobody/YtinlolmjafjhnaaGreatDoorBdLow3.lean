/- Texts that the proof leans on, one behind the other. -/
import Derived.Test.YtinlolmjafjhnaaGreatDoorBdLow2
import Derived.Test.YtinlolmjafjhnaaGreatDoorBdLin3
import Derived.Test.YtinlolmjafjhnaaGreatDoorBdTre1
import Derived.Test.YtinlolmjafjhnaaGreatDoorBdNod1
import Derived.Test.YtinlolmjafjhnaaGreatDoorBdCls1

section
/- walk.from and lower.Lower at the tree of one letter. -/
set_option linter.unusedVariables false
set_option linter.unusedSimpArgs false
namespace Go.Proofs.YtinlolmjafjhnaaGreatDoor.low
open Go.RowKit nod
open Go.Proofs.YtinlolmjafjhnaaGreatDoor.rng (R has IsSet Sl code CanF RV ret_int ret_bool info_parts)
open Go.Proofs.YtinlolmjafjhnaaGreatDoor.cls (Set_any Set_none Ans errS fitN shortN shortL own_sl i64s cells4 cells8 negP combP wideP withP IsP)
open Go.Proofs.YtinlolmjafjhnaaGreatDoor.fld (sim toldB tpts has_one sim_untold told_iff IsClo)

theorem cell_off8 {W : World} {k x i : Nat} {u x0 x1 x2 x3 x4 x5 x6 x7 : Value} (h : x ≠ k) (hc : W.cell? ⟨x, i, none⟩ = some u) : ((((((((W.setCell ⟨k, 0, none⟩ x0).setCell ⟨k, 1, none⟩ x1).setCell ⟨k, 2, none⟩ x2).setCell ⟨k, 3, none⟩ x3).setCell ⟨k, 4, none⟩ x4).setCell ⟨k, 5, none⟩ x5).setCell ⟨k, 6, none⟩ x6).setCell ⟨k, 7, none⟩ x7).cell? ⟨x, i, none⟩ = some u := by
  have e : ∀ (V : World) (j : Nat) (v : Value), (V.setCell ⟨k, j, none⟩ v).cell? ⟨x, i, none⟩ = V.cell? ⟨x, i, none⟩ := fun V j v => World.cell?_of_block (a := ⟨x, i, none⟩) (Below.heap_setCell _ _ _ _ h)
  rw [e, e, e, e, e, e, e, e]; exact hc
set_option maxHeartbeats 8000000 in
set_option maxRecDepth 1000000 in
theorem from_s {w0 W : World} {mb tb kb : Nat} (c : LC w0 W mb tb) (hkw : kb < W.heap.size) (hkm : kb ≠ mb) (h8 : Bk W kb #[.int .i64 1, .int .i64 0, .int .i64 97, .int .i64 0, .bool false, .string ⟨#[]⟩, .slice none 0 0, .slice none 0 0] 25) : Calls Tryz.prog 50 #[.agg #[.int .i64 6, .int .i64 0, .int .i64 0, .int .i64 0, .bool false, .string ⟨#[]⟩, .slice none 0 0, .slice (some ⟨kb, 0, none⟩) 1 1], .int .i64 0, .func (.func 22) #[] #[], .func (.func 24) #[] #[.pointer (some ⟨mb, 0, none⟩)]] W fun e w' => ∃ g cap a cp, e = .returned (.agg #[.int .i64 6, .int .i64 0, .int .i64 0, .int .i64 0, .bool false, .string ⟨#[]⟩, .slice none 0 0, .slice (some ⟨g, 0, none⟩) 1 cap]) ∧ LC w0 w' mb tb ∧ Kp (some mb) W w' ∧ w'.cell? ⟨g, 6, none⟩ = some (.slice a 2 cp) ∧ W.heap.size ≤ g := by
  have HB : Hid (Below W.heap.size W ((W.alloc (.cells #[.int .i64 6, .int .i64 0, .int .i64 0, .int .i64 0, .bool false, .string ⟨#[]⟩, .slice none 0 0, .slice (some ⟨kb, 0, none⟩) 1 1] 25)).alloc (.cells #[.int .i64 0, .int .i64 0, .int .i64 0, .int .i64 0, .bool false, .string ⟨#[]⟩, .slice none 0 0, .slice none 0 0] 25))) := below2 _ _ _
  have HX : Hid (Bk ((W.alloc (.cells #[.int .i64 6, .int .i64 0, .int .i64 0, .int .i64 0, .bool false, .string ⟨#[]⟩, .slice none 0 0, .slice (some ⟨kb, 0, none⟩) 1 1] 25)).alloc (.cells #[.int .i64 0, .int .i64 0, .int .i64 0, .int .i64 0, .bool false, .string ⟨#[]⟩, .slice none 0 0, .slice none 0 0] 25)) W.heap.size #[.int .i64 6, .int .i64 0, .int .i64 0, .int .i64 0, .bool false, .string ⟨#[]⟩, .slice none 0 0, .slice (some ⟨kb, 0, none⟩) 1 1] 25) := (Bk.new W _ _).past _
  have HR : Hid (Bk ((W.alloc (.cells #[.int .i64 6, .int .i64 0, .int .i64 0, .int .i64 0, .bool false, .string ⟨#[]⟩, .slice none 0 0, .slice (some ⟨kb, 0, none⟩) 1 1] 25)).alloc (.cells #[.int .i64 0, .int .i64 0, .int .i64 0, .int .i64 0, .bool false, .string ⟨#[]⟩, .slice none 0 0, .slice none 0 0] 25)) (W.heap.size + 1) #[.int .i64 0, .int .i64 0, .int .i64 0, .int .i64 0, .bool false, .string ⟨#[]⟩, .slice none 0 0, .slice none 0 0] 25) := bk2
  have hz : ((W.alloc (.cells #[.int .i64 6, .int .i64 0, .int .i64 0, .int .i64 0, .bool false, .string ⟨#[]⟩, .slice none 0 0, .slice (some ⟨kb, 0, none⟩) 1 1] 25)).alloc (.cells #[.int .i64 0, .int .i64 0, .int .i64 0, .int .i64 0, .bool false, .string ⟨#[]⟩, .slice none 0 0, .slice none 0 0] 25)).heap.size = W.heap.size + 1 + 1 := by simp
  have CE := enter_s kb 0 ((W.alloc (.cells #[.int .i64 6, .int .i64 0, .int .i64 0, .int .i64 0, .bool false, .string ⟨#[]⟩, .slice none 0 0, .slice (some ⟨kb, 0, none⟩) 1 1] 25)).alloc (.cells #[.int .i64 0, .int .i64 0, .int .i64 0, .int .i64 0, .bool false, .string ⟨#[]⟩, .slice none 0 0, .slice none 0 0] 25))
  have HC : Hid (LC w0 W mb tb) := c
  have H8 : Hid (Bk W kb #[.int .i64 1, .int .i64 0, .int .i64 97, .int .i64 0, .bool false, .string ⟨#[]⟩, .slice none 0 0, .slice none 0 0] 25) := h8
  have hmb := c.blk.lt
  have hw0 := c.bel.size
  obtain ⟨i0, hi, hz0, hz1, hz2⟩ := info_parts infoNd
  clear c h8
  go_enter Tryz.func50, Tryz.ntmps50
  go_wp2_with fail
  refine CE.mono ?_
  rintro e w1 ⟨rfl, b1⟩
  clear CE
  have HC1 : Hid (LC w0 w1 mb tb) := (HC.out.on HB.out).on b1
  have HK1 : Hid (Kp (some mb) W w1) := (Kp.of_below HB.out).trans (Kp.of_below b1)
  have HR1 : Hid (Bk w1 (W.heap.size + 1) #[.int .i64 0, .int .i64 0, .int .i64 0, .int .i64 0, .bool false, .string ⟨#[]⟩, .slice none 0 0, .slice none 0 0] 25) := HR.out.on b1
  have HX1 : Hid (Bk w1 W.heap.size #[.int .i64 6, .int .i64 0, .int .i64 0, .int .i64 0, .bool false, .string ⟨#[]⟩, .slice none 0 0, .slice (some ⟨kb, 0, none⟩) 1 1] 25) := HX.out.on b1
  have H81 : Hid (Bk w1 kb #[.int .i64 1, .int .i64 0, .int .i64 97, .int .i64 0, .bool false, .string ⟨#[]⟩, .slice none 0 0, .slice none 0 0] 25) := (H8.out.on HB.out).on b1
  have q7 := HX1.out.cell 7 (u := .slice (some ⟨kb, 0, none⟩) 1 1) rfl
  have hw1 : W.heap.size + 1 + 1 ≤ w1.heap.size := by have := b1.size; omega
  clear b1 HX HR HB HC H8
  go_wp2
  refine wp_loop_rounds 2 ?_
  rw [rounds_succ]
  obtain ⟨x0, x1, x2, x3, x4, x5, x6, x7⟩ := cells8 H81.out
  have CF := from_a 1 (HC1.out.on ((Below.refl _ w1).alloc (Nat.le_refl _) (.cells #[.int .i64 1, .int .i64 0, .int .i64 97, .int .i64 0, .bool false, .string ⟨#[]⟩, .slice none 0 0, .slice none 0 0] 25)))
  have HO0 : w1.ownsRow (W.heap.size + 1 + 1) 25 8 (.slice none 0 0) 0 [] := World.ownsRow_nil _ _ _ _
  have HKA : Hid (Kp (some mb) W (w1.alloc (.cells #[.int .i64 1, .int .i64 0, .int .i64 97, .int .i64 0, .bool false, .string ⟨#[]⟩, .slice none 0 0, .slice none 0 0] 25))) := HK1.out.alloc _
  have HXA : Hid (Bk (w1.alloc (.cells #[.int .i64 1, .int .i64 0, .int .i64 97, .int .i64 0, .bool false, .string ⟨#[]⟩, .slice none 0 0, .slice none 0 0] 25)) W.heap.size #[.int .i64 6, .int .i64 0, .int .i64 0, .int .i64 0, .bool false, .string ⟨#[]⟩, .slice none 0 0, .slice (some ⟨kb, 0, none⟩) 1 1] 25) := HX1.out.past _
  have HRA : Hid (Bk (w1.alloc (.cells #[.int .i64 1, .int .i64 0, .int .i64 97, .int .i64 0, .bool false, .string ⟨#[]⟩, .slice none 0 0, .slice none 0 0] 25)) (W.heap.size + 1) #[.int .i64 0, .int .i64 0, .int .i64 0, .int .i64 0, .bool false, .string ⟨#[]⟩, .slice none 0 0, .slice none 0 0] 25) := HR1.out.past _
  go_wp2_with fail
  refine CF.mono ?_
  rintro e w2 ⟨a, cp, rfl, c2, k2⟩
  clear CF x0 x1 x2 x3 x4 x5 x6 x7 q7 HK1 HX1 HR1 H81 HO0
  have HC2 : Hid (LC w0 w2 mb tb) := c2
  have HK2 : Hid (Kp (some mb) W w2) := HKA.out.trans k2
  have HX2 : Hid (Bk w2 W.heap.size #[.int .i64 6, .int .i64 0, .int .i64 0, .int .i64 0, .bool false, .string ⟨#[]⟩, .slice none 0 0, .slice (some ⟨kb, 0, none⟩) 1 1] 25) := HXA.out.kp k2 (fun e => by cases e; omega)
  have HR2 : Hid (Bk w2 (W.heap.size + 1) #[.int .i64 0, .int .i64 0, .int .i64 0, .int .i64 0, .bool false, .string ⟨#[]⟩, .slice none 0 0, .slice none 0 0] 25) := HRA.out.kp k2 (fun e => by cases e; omega)
  have hw2 : W.heap.size + 1 + 1 ≤ w2.heap.size := by have := k2.size; simp at this; omega
  have own2 : w2.ownsRow (W.heap.size + 1 + 1) 25 8 (.slice none 0 0) 0 [] := World.ownsRow_nil _ _ _ _
  clear c2 k2 HKA HXA HRA HC1
  unfold S15
  go_wp2_with (at_builtin; refine wpList_append_own _ rfl _ _ 23 rfl (W.heap.size + 1 + 1) 25 i0 (.agg #[.int .i64 0, .int .i64 0, .int .i64 0, .int .i64 0, .bool false, .string ⟨#[]⟩, .slice none 0 0, .slice none 0 0]) 8 104 Tryz.underlying23 hi hz0 hz1 hz2 rfl (by decide) _ _ _ rfl (own2.alloc _) ⟨w2.heap.size, 0, none⟩ 1 1 [.int .i64 15, .int .i64 0, .int .i64 0, .int .i64 0, .bool false, .string ⟨#[]⟩, .slice a 2 cp, .slice none 0 0] rfl rfl ?c1 ?c2 ?c3 ?c4 ?c5 ?_)
  case c1 => intro i u hu; match i, hu with
    | 0, hu => simp at hu; subst hu; simp [Addr.add]
    | 1, hu => simp at hu; subst hu; simp [Addr.add]
    | 2, hu => simp at hu; subst hu; simp [Addr.add]
    | 3, hu => simp at hu; subst hu; simp [Addr.add]
    | 4, hu => simp at hu; subst hu; simp [Addr.add]
    | 5, hu => simp at hu; subst hu; simp [Addr.add]
    | 6, hu => simp at hu; subst hu; simp [Addr.add]
    | 7, hu => simp at hu; subst hu; simp [Addr.add]
    | i + 8, hu => simp at hu
  case c2 => intro u hu; simp at hu; rcases hu with rfl | rfl | rfl | rfl | rfl | rfl <;> rfl
  case c3 => unfold maxLen; omega
  case c4 => omega
  case c5 => simp; omega
  intro v' w3 hown3 hgrow _
  have KA : Below (W.heap.size + 1 + 1) w2 w3 := Below.grown ((Below.refl _ w2).alloc hw2 _) hgrow (by simp; omega) (fun z e => (own2.lt _ e).1)
  obtain ⟨gg, cap, rfl, hge⟩ : ∃ gg cap, v' = .slice (some ⟨gg, 0, none⟩) 1 cap ∧ W.heap.size + 1 + 1 ≤ gg := by
    rcases hown3.2 with ⟨_, h0⟩ | ⟨gg, cap, cur, rfl, hg, _⟩
    · omega
    · exact ⟨gg, cap, rfl, hg⟩
  have H6 : Hid (w3.cell? ⟨gg, 6, none⟩ = some (.slice a 2 cp)) := by have := hown3.cellAt 6 (by simp); simpa [Hid] using this
  have HK3 : Hid (Kp (some mb) W w3) := HK2.out.then (below_less KA (by omega))
  have HX3 : Hid (Bk w3 W.heap.size #[.int .i64 6, .int .i64 0, .int .i64 0, .int .i64 0, .bool false, .string ⟨#[]⟩, .slice none 0 0, .slice (some ⟨kb, 0, none⟩) 1 1] 25) := HX2.out.keep KA (by omega)
  have HR3 : Hid (Bk w3 (W.heap.size + 1) #[.int .i64 0, .int .i64 0, .int .i64 0, .int .i64 0, .bool false, .string ⟨#[]⟩, .slice none 0 0, .slice none 0 0] 25) := HR2.out.keep KA (by omega)
  have HC3 : Hid (LC w0 w3 mb tb) := ⟨HC2.out.tabs, HC2.out.env, HC2.out.bel.trans (below_less KA (by omega)), HC2.out.ge, HC2.out.blk.keep KA (by omega)⟩
  have HG : Hid (gg < w3.heap.size) := World.block_lt_of_cell? w3 _ H6.out
  clear hown3 hgrow KA own2 HK2 HX2 HR2 HC2
  go_wp2
  rw [rounds_succ]
  obtain ⟨x0, x1, x2, x3, x4, x5, x6, x7⟩ := cells8 HX3.out
  have CJ := join_s kb gg cap (.pointer (some ⟨mb, 0, none⟩)) w3
  go_wp2_with fail
  refine CJ.mono ?_
  rintro e w4 ⟨rfl, b4⟩
  clear CJ x0 x1 x2 x3 x4 x5 x6 x7
  have HC4 : Hid (LC w0 w4 mb tb) := HC3.out.on b4
  have HK4 : Hid (Kp (some mb) W w4) := HK3.out.trans (Kp.of_below b4)
  have HR4 : Hid (Bk w4 (W.heap.size + 1) #[.int .i64 0, .int .i64 0, .int .i64 0, .int .i64 0, .bool false, .string ⟨#[]⟩, .slice none 0 0, .slice none 0 0] 25) := HR3.out.on b4
  have H64 : Hid (w4.cell? ⟨gg, 6, none⟩ = some (.slice a 2 cp)) := (b4.cell (p := ⟨gg, 6, none⟩) HG.out).trans H6.out
  clear b4 HC3 HK3 HR3 HX3 H6 HG
  obtain ⟨⟨x0, x1, x2, x3, x4, x5, x6, x7⟩, y0, y1, y2, y3, y4, y5, y6, y7⟩ := open8 HR4.out
  go_wp2
  refine bodyPost_ret (results_cell_row Tryz.results50 _ _ (W.heap.size + 1) _ #[.int .i64 6, .int .i64 0, .int .i64 0, .int .i64 0, .bool false, .string ⟨#[]⟩, .slice none 0 0, .slice (some ⟨gg, 0, none⟩) 1 cap] _ _ rfl (bk_set8 HR4.out _ _ _ _ _ _ _ _) Tryz.underlying25 rfl infoNode) rfl ?_
  exact ⟨gg, cap, a, cp, rfl, HC4.out.off8 (k := W.heap.size + 1) (by omega) (by omega) _ _ _ _ _ _ _ _, kp_set8 HK4.out (by omega) _ _ _ _ _ _ _ _, cell_off8 (by omega) H64.out, by omega⟩
end Go.Proofs.YtinlolmjafjhnaaGreatDoor.low
end

section
/- lower.Lower at the tree of one letter and at tables that no call made; awake; the walk of LowerNobody. -/
set_option linter.unusedVariables false
set_option linter.unusedSimpArgs false
namespace Go.Proofs.YtinlolmjafjhnaaGreatDoor.low
open Go.RowKit nod
open Go.Proofs.YtinlolmjafjhnaaGreatDoor.rng (R has IsSet Sl code CanF RV ret_int ret_bool info_parts)
open Go.Proofs.YtinlolmjafjhnaaGreatDoor.cls (Set_any Set_none Ans errS fitN shortN shortL own_sl i64s cells4 cells8 negP combP wideP withP IsP)
open Go.Proofs.YtinlolmjafjhnaaGreatDoor.fld (sim toldB tpts has_one sim_untold told_iff IsClo)

set_option maxHeartbeats 4000000 in
set_option maxRecDepth 1000000 in
theorem up_s {w0 W : World} {mb tb kb : Nat} (c : LC w0 W mb tb) (hkw : kb < W.heap.size) (hkm : kb ≠ mb) (h8 : Bk W kb #[.int .i64 1, .int .i64 0, .int .i64 97, .int .i64 0, .bool false, .string ⟨#[]⟩, .slice none 0 0, .slice none 0 0] 25) : Calls Tryz.prog 21 #[.agg #[.int .i64 6, .int .i64 0, .int .i64 0, .int .i64 0, .bool false, .string ⟨#[]⟩, .slice none 0 0, .slice (some ⟨kb, 0, none⟩) 1 1], .func (.func 22) #[] #[], .func (.func 24) #[] #[.pointer (some ⟨mb, 0, none⟩)]] W fun e w' => ∃ g cap a cp, e = .returned (.agg #[.int .i64 6, .int .i64 0, .int .i64 0, .int .i64 0, .bool false, .string ⟨#[]⟩, .slice none 0 0, .slice (some ⟨g, 0, none⟩) 1 cap]) ∧ LC w0 w' mb tb ∧ Kp (some mb) W w' ∧ w'.cell? ⟨g, 6, none⟩ = some (.slice a 2 cp) ∧ W.heap.size ≤ g := by
  have HB : Hid (Below W.heap.size W ((W.alloc (.cells #[.int .i64 6, .int .i64 0, .int .i64 0, .int .i64 0, .bool false, .string ⟨#[]⟩, .slice none 0 0, .slice (some ⟨kb, 0, none⟩) 1 1] 25)).alloc (.cells #[.int .i64 0, .int .i64 0, .int .i64 0, .int .i64 0, .bool false, .string ⟨#[]⟩, .slice none 0 0, .slice none 0 0] 25))) := below2 _ _ _
  have HR : Hid (Bk ((W.alloc (.cells #[.int .i64 6, .int .i64 0, .int .i64 0, .int .i64 0, .bool false, .string ⟨#[]⟩, .slice none 0 0, .slice (some ⟨kb, 0, none⟩) 1 1] 25)).alloc (.cells #[.int .i64 0, .int .i64 0, .int .i64 0, .int .i64 0, .bool false, .string ⟨#[]⟩, .slice none 0 0, .slice none 0 0] 25)) (W.heap.size + 1) #[.int .i64 0, .int .i64 0, .int .i64 0, .int .i64 0, .bool false, .string ⟨#[]⟩, .slice none 0 0, .slice none 0 0] 25) := bk2
  have hz : ((W.alloc (.cells #[.int .i64 6, .int .i64 0, .int .i64 0, .int .i64 0, .bool false, .string ⟨#[]⟩, .slice none 0 0, .slice (some ⟨kb, 0, none⟩) 1 1] 25)).alloc (.cells #[.int .i64 0, .int .i64 0, .int .i64 0, .int .i64 0, .bool false, .string ⟨#[]⟩, .slice none 0 0, .slice none 0 0] 25)).heap.size = W.heap.size + 1 + 1 := by simp
  have CF := from_s (c.on HB.out) (by omega) hkm (h8.on HB.out)
  have hmb := c.blk.lt
  have hw0 := c.bel.size
  clear c h8
  go_enter Tryz.func21, Tryz.ntmps21
  go_wp2_with fail
  refine CF.mono ?_
  rintro e w2 ⟨gg, cap, a, cp, rfl, c2, k2, h6, hg⟩
  clear CF
  have HC2 : Hid (LC w0 w2 mb tb) := c2
  have HK2 : Hid (Kp (some mb) W w2) := (Kp.of_below HB.out).trans k2
  have HR2 : Hid (Bk w2 (W.heap.size + 1) #[.int .i64 0, .int .i64 0, .int .i64 0, .int .i64 0, .bool false, .string ⟨#[]⟩, .slice none 0 0, .slice none 0 0] 25) := HR.out.kp k2 (fun e => by cases e; omega)
  have H6 : Hid (w2.cell? ⟨gg, 6, none⟩ = some (.slice a 2 cp)) := h6
  have hgg : W.heap.size + 1 + 1 ≤ gg := by omega
  clear c2 k2 h6 hg HB HR hz
  obtain ⟨⟨x0, x1, x2, x3, x4, x5, x6, x7⟩, y0, y1, y2, y3, y4, y5, y6, y7⟩ := open8 HR2.out
  go_wp2
  refine bodyPost_ret (results_cell_row Tryz.results21 _ _ (W.heap.size + 1) _ #[.int .i64 6, .int .i64 0, .int .i64 0, .int .i64 0, .bool false, .string ⟨#[]⟩, .slice none 0 0, .slice (some ⟨gg, 0, none⟩) 1 cap] _ _ rfl (bk_set8 HR2.out _ _ _ _ _ _ _ _) Tryz.underlying25 rfl infoNode) rfl ?_
  exact ⟨gg, cap, a, cp, rfl, HC2.out.off8 (k := W.heap.size + 1) (by omega) (by omega) _ _ _ _ _ _ _ _, kp_set8 HK2.out (by omega) _ _ _ _ _ _ _ _, cell_off8 (by omega) H6.out, by omega⟩
def yT : Nd := .mk 2 0 0 0 false ⟨#[]⟩ [] []
theorem y_err : errS 1 1 yT = 0 := by decide
theorem y_sz : yT.sz ≤ 1 := by decide
theorem y_short : shortN yT := by
  simp only [yT, shortN, shortL]
  exact ⟨by decide, trivial⟩
theorem set_y (tb : Nat) (W : World) (hT : prp.Tabs W tb) (hE : prp.Env W) : Calls Tryz.prog 19 #[.pointer (some ⟨tb, 0, none⟩), .agg #[.int .i64 2, .int .i64 0, .int .i64 0, .int .i64 0, .bool false, .string ⟨#[]⟩, .slice none 0 0, .slice none 0 0], .agg #[.bool false, .bool false, .bool false, .int .i64 1]] W fun e w' => ∃ a n c, e = .returned (.tuple #[.slice a n c, .int .i64 0]) ∧ Below W.heap.size W w' := by
  have C := Set_any 1 (by decide) yT _ W.heap.size W tb false false false 1 y_sz y_short (nv_leaf W.heap.size W 2 0 0 0 false ⟨#[]⟩ (i64s (by decide) (by decide)) (i64s (by decide) (by decide)) (i64s (by decide) (by decide)) (i64s (by decide) (by decide)) (by decide)) (Nat.le_refl _) hT hE
  rw [y_err] at C
  unfold Ans at C
  refine C.mono ?_
  rintro e w2 ⟨v2, r, rfl, o2, i2, _, b2⟩
  obtain ⟨ya, yc, hy⟩ := own_sl o2
  subst hy
  exact ⟨ya, _, yc, rfl, b2⟩
set_option maxHeartbeats 8000000 in
set_option maxRecDepth 1000000 in
theorem lower_a (w : World) (tb kb : Nat) (hT : prp.Tabs w tb) (hE : prp.Env w) (hP : PE w) (h8 : Bk w kb #[.int .i64 1, .int .i64 0, .int .i64 97, .int .i64 0, .bool false, .string ⟨#[]⟩, .slice none 0 0, .slice none 0 0] 25) : Calls Tryz.prog 9 #[.pointer (some ⟨tb, 0, none⟩), .agg #[.int .i64 6, .int .i64 0, .int .i64 0, .int .i64 0, .bool false, .string ⟨#[]⟩, .slice none 0 0, .slice (some ⟨kb, 0, none⟩) 1 1], .agg #[.bool false, .bool false, .bool false, .int .i64 1]] w fun e w' => ∃ g cap a cp, e = .returned (.tuple #[.agg #[.int .i64 6, .int .i64 0, .int .i64 0, .int .i64 0, .bool false, .string ⟨#[]⟩, .slice none 0 0, .slice (some ⟨g, 0, none⟩) 1 cap], .int .i64 0]) ∧ Below w.heap.size w w' ∧ w'.cell? ⟨g, 6, none⟩ = some (.slice a 2 cp) := by
  have HB : Hid (Below w.heap.size w (((w.alloc (.cells #[.int .i64 6, .int .i64 0, .int .i64 0, .int .i64 0, .bool false, .string ⟨#[]⟩, .slice none 0 0, .slice (some ⟨kb, 0, none⟩) 1 1] 25)).alloc (.cells #[.bool false, .bool false, .bool false, .int .i64 1] 30)).alloc (.cells #[.int .i64 0, .int .i64 0, .int .i64 0, .int .i64 0, .bool false, .string ⟨#[]⟩, .slice none 0 0, .slice none 0 0] 25))) := ((below2 _ _ _).trans (((Below.refl _ _).alloc (Nat.le_refl _) _).mono (by simp; omega)))
  have HX : Hid (Bk (((w.alloc (.cells #[.int .i64 6, .int .i64 0, .int .i64 0, .int .i64 0, .bool false, .string ⟨#[]⟩, .slice none 0 0, .slice (some ⟨kb, 0, none⟩) 1 1] 25)).alloc (.cells #[.bool false, .bool false, .bool false, .int .i64 1] 30)).alloc (.cells #[.int .i64 0, .int .i64 0, .int .i64 0, .int .i64 0, .bool false, .string ⟨#[]⟩, .slice none 0 0, .slice none 0 0] 25)) w.heap.size #[.int .i64 6, .int .i64 0, .int .i64 0, .int .i64 0, .bool false, .string ⟨#[]⟩, .slice none 0 0, .slice (some ⟨kb, 0, none⟩) 1 1] 25) := ((Bk.new w _ _).past _).past _
  have HO : Hid (Bk (((w.alloc (.cells #[.int .i64 6, .int .i64 0, .int .i64 0, .int .i64 0, .bool false, .string ⟨#[]⟩, .slice none 0 0, .slice (some ⟨kb, 0, none⟩) 1 1] 25)).alloc (.cells #[.bool false, .bool false, .bool false, .int .i64 1] 30)).alloc (.cells #[.int .i64 0, .int .i64 0, .int .i64 0, .int .i64 0, .bool false, .string ⟨#[]⟩, .slice none 0 0, .slice none 0 0] 25)) (w.heap.size + 1) #[.bool false, .bool false, .bool false, .int .i64 1] 30) := bk2.past _
  have HR : Hid (Bk (((w.alloc (.cells #[.int .i64 6, .int .i64 0, .int .i64 0, .int .i64 0, .bool false, .string ⟨#[]⟩, .slice none 0 0, .slice (some ⟨kb, 0, none⟩) 1 1] 25)).alloc (.cells #[.bool false, .bool false, .bool false, .int .i64 1] 30)).alloc (.cells #[.int .i64 0, .int .i64 0, .int .i64 0, .int .i64 0, .bool false, .string ⟨#[]⟩, .slice none 0 0, .slice none 0 0] 25)) (w.heap.size + 1 + 1) #[.int .i64 0, .int .i64 0, .int .i64 0, .int .i64 0, .bool false, .string ⟨#[]⟩, .slice none 0 0, .slice none 0 0] 25) := by
    have := Bk.new ((w.alloc (.cells #[.int .i64 6, .int .i64 0, .int .i64 0, .int .i64 0, .bool false, .string ⟨#[]⟩, .slice none 0 0, .slice (some ⟨kb, 0, none⟩) 1 1] 25)).alloc (.cells #[.bool false, .bool false, .bool false, .int .i64 1] 30)) #[.int .i64 0, .int .i64 0, .int .i64 0, .int .i64 0, .bool false, .string ⟨#[]⟩, .slice none 0 0, .slice none 0 0] 25
    simpa [Hid] using this
  have hz : (((w.alloc (.cells #[.int .i64 6, .int .i64 0, .int .i64 0, .int .i64 0, .bool false, .string ⟨#[]⟩, .slice none 0 0, .slice (some ⟨kb, 0, none⟩) 1 1] 25)).alloc (.cells #[.bool false, .bool false, .bool false, .int .i64 1] 30)).alloc (.cells #[.int .i64 0, .int .i64 0, .int .i64 0, .int .i64 0, .bool false, .string ⟨#[]⟩, .slice none 0 0, .slice none 0 0] 25)).heap.size = w.heap.size + 1 + 1 + 1 := by simp
  have CY := set_y tb (((w.alloc (.cells #[.int .i64 6, .int .i64 0, .int .i64 0, .int .i64 0, .bool false, .string ⟨#[]⟩, .slice none 0 0, .slice (some ⟨kb, 0, none⟩) 1 1] 25)).alloc (.cells #[.bool false, .bool false, .bool false, .int .i64 1] 30)).alloc (.cells #[.int .i64 0, .int .i64 0, .int .i64 0, .int .i64 0, .bool false, .string ⟨#[]⟩, .slice none 0 0, .slice none 0 0] 25)) (hT.below HB.out) (hE.below HB.out)
  have HC : Hid (∀ W', Below w.heap.size w W' → Calls Tryz.prog 20 #[.agg #[.int .i64 6, .int .i64 0, .int .i64 0, .int .i64 0, .bool false, .string ⟨#[]⟩, .slice none 0 0, .slice (some ⟨kb, 0, none⟩) 1 1]] W' fun e w' => e = .returned (.bool true) ∧ Below W'.heap.size W' w') := fun W' h => can_1 (hP.below h) (Nat.le_refl 1) (Nat.lt_of_lt_of_le h8.lt h.size) (at8_first (h8.on h))
  have HU : Hid (∀ W' mb, LC w W' mb tb → Below w.heap.size w W' → Calls Tryz.prog 21 #[.agg #[.int .i64 6, .int .i64 0, .int .i64 0, .int .i64 0, .bool false, .string ⟨#[]⟩, .slice none 0 0, .slice (some ⟨kb, 0, none⟩) 1 1], .func (.func 22) #[] #[], .func (.func 24) #[] #[.pointer (some ⟨mb, 0, none⟩)]] W' fun e w' => ∃ g cap a cp, e = .returned (.agg #[.int .i64 6, .int .i64 0, .int .i64 0, .int .i64 0, .bool false, .string ⟨#[]⟩, .slice none 0 0, .slice (some ⟨g, 0, none⟩) 1 cap]) ∧ LC w w' mb tb ∧ Kp (some mb) W' w' ∧ w'.cell? ⟨g, 6, none⟩ = some (.slice a 2 cp) ∧ W'.heap.size ≤ g) := fun W' mb h1 h2 => up_s h1 (Nat.lt_of_lt_of_le h8.lt h2.size) (by have := h8.lt; have := h1.ge; omega) (h8.on h2)
  have HT : Hid (prp.Tabs w tb ∧ prp.Env w) := ⟨hT, hE⟩
  clear hT hE hP h8
  go_enter Tryz.func9, Tryz.ntmps9
  go_wp2_with fail
  refine CY.mono ?_
  rintro e w1 ⟨sa, sn, sc, rfl, b1⟩
  clear CY
  have HB1 : Hid (Below w.heap.size w w1) := HB.out.trans (below_less b1 (by omega))
  have HX1 : Hid (Bk w1 w.heap.size #[.int .i64 6, .int .i64 0, .int .i64 0, .int .i64 0, .bool false, .string ⟨#[]⟩, .slice none 0 0, .slice (some ⟨kb, 0, none⟩) 1 1] 25) := HX.out.on b1
  have HO1 : Hid (Bk w1 (w.heap.size + 1) #[.bool false, .bool false, .bool false, .int .i64 1] 30) := HO.out.on b1
  have HR1 : Hid (Bk w1 (w.heap.size + 1 + 1) #[.int .i64 0, .int .i64 0, .int .i64 0, .int .i64 0, .bool false, .string ⟨#[]⟩, .slice none 0 0, .slice none 0 0] 25) := HR.out.on b1
  have hw1 : w.heap.size + 1 + 1 + 1 ≤ w1.heap.size := by have := b1.size; omega
  clear b1 HB HX HO HR hz
  obtain ⟨x0, x1, x2, x3, x4, x5, x6, x7⟩ := cells8 HX1.out
  have C := HC.out w1 HB1.out
  go_wp2_with fail
  refine C.mono ?_
  rintro e w2 ⟨rfl, b2⟩
  clear C x0 x1 x2 x3 x4 x5 x6 x7 HC
  have HB3 : Hid (Below w.heap.size w (w2.alloc (.cells #[.pointer (some ⟨tb, 0, none⟩), .bool false, .bool false, .bool false, .int .i64 1, .int .i64 0] 61))) := (HB1.out.trans (below_less b2 HB1.out.size)).alloc (Nat.le_trans HB1.out.size b2.size) _
  have HX3 : Hid (Bk (w2.alloc (.cells #[.pointer (some ⟨tb, 0, none⟩), .bool false, .bool false, .bool false, .int .i64 1, .int .i64 0] 61)) w.heap.size #[.int .i64 6, .int .i64 0, .int .i64 0, .int .i64 0, .bool false, .string ⟨#[]⟩, .slice none 0 0, .slice (some ⟨kb, 0, none⟩) 1 1] 25) := (HX1.out.on b2).past _
  have HR3 : Hid (Bk (w2.alloc (.cells #[.pointer (some ⟨tb, 0, none⟩), .bool false, .bool false, .bool false, .int .i64 1, .int .i64 0] 61)) (w.heap.size + 1 + 1) #[.int .i64 0, .int .i64 0, .int .i64 0, .int .i64 0, .bool false, .string ⟨#[]⟩, .slice none 0 0, .slice none 0 0] 25) := (HR1.out.on b2).past _
  have hw2 : w.heap.size + 1 + 1 + 1 ≤ w2.heap.size := Nat.le_trans hw1 b2.size
  have CU := HU.out (w2.alloc (.cells #[.pointer (some ⟨tb, 0, none⟩), .bool false, .bool false, .bool false, .int .i64 1, .int .i64 0] 61)) w2.heap.size ⟨HT.out.1, HT.out.2, HB3.out, by omega, Bk.new _ _ _⟩ HB3.out
  obtain ⟨o0, o1, o2, o3⟩ := cells4 (HO1.out.on b2)
  obtain ⟨u0, u1, u2, u3, u4, u5, u6, u7⟩ := cells8 (HX1.out.on b2)
  obtain ⟨x0, x1, x2, x3, x4, x5, x6, x7⟩ := cells8 HX3.out
  clear b2 HU HB1 HX1 HO1 HR1 hw1 HT
  go_wp2_with fail
  refine CU.mono ?_
  rintro e w4 ⟨gg, cap, a, cp, rfl, c4, k4, h6, hg⟩
  clear CU x0 x1 x2 x3 x4 x5 x6 x7 u0 u1 u2 u3 u4 u5 u6 u7 o0 o1 o2 o3
  have HF : Hid (Below w.heap.size w w4) := HB3.out.trans (k4.below HB3.out.size (fun x e => by cases e; omega))
  have HR4 : Hid (Bk w4 (w.heap.size + 1 + 1) #[.int .i64 0, .int .i64 0, .int .i64 0, .int .i64 0, .bool false, .string ⟨#[]⟩, .slice none 0 0, .slice none 0 0] 25) := HR3.out.kp k4 (fun e => by have := Option.some.inj e; omega)
  have H6 : Hid (w4.cell? ⟨gg, 6, none⟩ = some (.slice a 2 cp)) := h6
  have hgg : w.heap.size + 1 + 1 ≠ gg := by simp at hg; omega
  have m6 := (c4.blk.past (.cells #[.int .i64 6, .int .i64 0, .int .i64 0, .int .i64 0, .bool false, .string ⟨#[]⟩, .slice none 0 0, .slice (some ⟨gg, 0, none⟩) 1 cap] 25)).cell 5 (u := .int .i64 0) rfl
  clear c4 k4 h6 hg HB3 HX3 HR3
  obtain ⟨⟨s0, s1, s2, s3, s4, s5, s6, s7⟩, t0, t1, t2, t3, t4, t5, t6, t7⟩ := open8 (HR4.out.past (.cells #[.int .i64 6, .int .i64 0, .int .i64 0, .int .i64 0, .bool false, .string ⟨#[]⟩, .slice none 0 0, .slice (some ⟨gg, 0, none⟩) 1 cap] 25))
  go_wp2
  refine bodyPost_ret (lin.results_row_tmp Tryz.results9 _ _ (w.heap.size + 1 + 1) _ #[.int .i64 6, .int .i64 0, .int .i64 0, .int .i64 0, .bool false, .string ⟨#[]⟩, .slice none 0 0, .slice (some ⟨gg, 0, none⟩) 1 cap] _ _ rfl (bk_set8 (HR4.out.past _) _ _ _ _ _ _ _ _) Tryz.underlying25 rfl infoNode) rfl ?_
  refine ⟨gg, cap, a, cp, rfl, ?_, ?_⟩
  · exact (kp_set8 (E := none) (k := w.heap.size + 1 + 1) ((Kp.of_below HF.out).alloc _) (by omega) _ _ _ _ _ _ _ _).none
  · exact cell_off8 (fun e => hgg e.symm) (cell_past _ H6.out)
set_option maxHeartbeats 4000000 in
set_option maxRecDepth 1000000 in
theorem awake_any (w : World) (E : prp.Env w) (P : PE w) : Calls Tryz.prog 6 #[] w fun e w' => e = .returned (.bool true) ∧ Below w.heap.size w w' := by
  have C := prp.load_any w E
  have HE : Hid (prp.Env w ∧ PE w) := ⟨E, P⟩
  clear E P
  go_enter Tryz.func6, Tryz.ntmps6
  go_wp2_with fail
  refine C.mono ?_
  rintro e w1 ⟨t, rfl, ht, b1⟩
  clear C
  have B1 : Below w1.heap.size w1 (w1.alloc (.cells #[.int .i64 1, .int .i64 0, .int .i64 97, .int .i64 0, .bool false, .string ⟨#[]⟩, .slice none 0 0, .slice none 0 0] 25)) := (Below.refl _ w1).alloc (Nat.le_refl _) _
  have HB1 : Hid (Below w.heap.size w (w1.alloc (.cells #[.int .i64 1, .int .i64 0, .int .i64 97, .int .i64 0, .bool false, .string ⟨#[]⟩, .slice none 0 0, .slice none 0 0] 25))) := b1.trans (B1.mono b1.size)
  have C := lower_a (w1.alloc (.cells #[.int .i64 1, .int .i64 0, .int .i64 97, .int .i64 0, .bool false, .string ⟨#[]⟩, .slice none 0 0, .slice none 0 0] 25)) t w1.heap.size (ht.below B1) (HE.out.1.below HB1.out) (HE.out.2.below HB1.out) (Bk.new _ _ _)
  clear B1 b1 ht
  go_wp2_with fail
  refine C.mono ?_
  rintro e w2 ⟨gg, cap, a, cp, rfl, b2, h6⟩
  clear C
  have HB2 : Hid (Below w.heap.size w w2) := HB1.out.trans (b2.mono HB1.out.size)
  have HF : Hid (Below w.heap.size w (w2.alloc (.cells #[.int .i64 6, .int .i64 0, .int .i64 0, .int .i64 0, .bool false, .string ⟨#[]⟩, .slice none 0 0, .slice (some ⟨gg, 0, none⟩) 1 cap] 25))) := HB2.out.alloc HB2.out.size _
  have h7 := cell_past (.cells #[.int .i64 6, .int .i64 0, .int .i64 0, .int .i64 0, .bool false, .string ⟨#[]⟩, .slice none 0 0, .slice (some ⟨gg, 0, none⟩) 1 cap] 25) h6
  clear HB1 b2 HB2
  go_wp2
  go_ret
  exact ⟨rfl, HF.out⟩
set_option maxHeartbeats 4000000 in
set_option maxRecDepth 1000000 in
theorem lower_none (v : Value) (k m a b : Int) (g : Bool) (n : ByteArray) (ta : Option Addr) (tl tc : Nat) (ka : Option Addr) (kl kc : Nat) (c d mu : Bool) (fo : Int) (w : World) (h : prp.Unmade w v) :
    Calls Tryz.prog 9 #[v, .agg #[.int .i64 k, .int .i64 m, .int .i64 a, .int .i64 b, .bool g, .string n, .slice ta tl tc, .slice ka kl kc], .agg #[.bool c, .bool d, .bool mu, .int .i64 fo]] w fun e w' => e = .returned (.tuple #[.agg #[.int .i64 0, .int .i64 0, .int .i64 0, .int .i64 0, .bool false, .string ⟨#[]⟩, .slice none 0 0, .slice none 0 0], .int .i64 2]) ∧ Below w.heap.size w w' := by
  have HB : Hid (Below w.heap.size w (((w.alloc (.cells #[.int .i64 k, .int .i64 m, .int .i64 a, .int .i64 b, .bool g, .string n, .slice ta tl tc, .slice ka kl kc] 25)).alloc (.cells #[.bool c, .bool d, .bool mu, .int .i64 fo] 30)).alloc (.cells #[.int .i64 0, .int .i64 0, .int .i64 0, .int .i64 0, .bool false, .string ⟨#[]⟩, .slice none 0 0, .slice none 0 0] 25))) := ((below2 _ _ _).trans (((Below.refl _ _).alloc (Nat.le_refl _) _).mono (by simp; omega)))
  have HR : Hid (Bk (((w.alloc (.cells #[.int .i64 k, .int .i64 m, .int .i64 a, .int .i64 b, .bool g, .string n, .slice ta tl tc, .slice ka kl kc] 25)).alloc (.cells #[.bool c, .bool d, .bool mu, .int .i64 fo] 30)).alloc (.cells #[.int .i64 0, .int .i64 0, .int .i64 0, .int .i64 0, .bool false, .string ⟨#[]⟩, .slice none 0 0, .slice none 0 0] 25)) (w.heap.size + 1 + 1) #[.int .i64 0, .int .i64 0, .int .i64 0, .int .i64 0, .bool false, .string ⟨#[]⟩, .slice none 0 0, .slice none 0 0] 25) := by
    have := Bk.new ((w.alloc (.cells #[.int .i64 k, .int .i64 m, .int .i64 a, .int .i64 b, .bool g, .string n, .slice ta tl tc, .slice ka kl kc] 25)).alloc (.cells #[.bool c, .bool d, .bool mu, .int .i64 fo] 30)) #[.int .i64 0, .int .i64 0, .int .i64 0, .int .i64 0, .bool false, .string ⟨#[]⟩, .slice none 0 0, .slice none 0 0] 25
    simpa [Hid] using this
  have hz : (((w.alloc (.cells #[.int .i64 k, .int .i64 m, .int .i64 a, .int .i64 b, .bool g, .string n, .slice ta tl tc, .slice ka kl kc] 25)).alloc (.cells #[.bool c, .bool d, .bool mu, .int .i64 fo] 30)).alloc (.cells #[.int .i64 0, .int .i64 0, .int .i64 0, .int .i64 0, .bool false, .string ⟨#[]⟩, .slice none 0 0, .slice none 0 0] 25)).heap.size = w.heap.size + 1 + 1 + 1 := by simp
  have C := Set_none v 2 0 0 0 false ⟨#[]⟩ none 0 0 none 0 0 c d mu fo _ (h.below HB.out)
  clear h
  go_enter Tryz.func9, Tryz.ntmps9
  go_wp2_with fail
  refine C.mono ?_
  rintro e w1 ⟨rfl, b1⟩
  clear C
  have HF : Hid (Below w.heap.size w w1) := HB.out.trans (below_less b1 (by omega))
  have HR1 : Hid (Bk w1 (w.heap.size + 1 + 1) #[.int .i64 0, .int .i64 0, .int .i64 0, .int .i64 0, .bool false, .string ⟨#[]⟩, .slice none 0 0, .slice none 0 0] 25) := HR.out.on b1
  clear b1 HB HR hz
  obtain ⟨⟨x0, x1, x2, x3, x4, x5, x6, x7⟩, y0, y1, y2, y3, y4, y5, y6, y7⟩ := open8 HR1.out
  go_wp2
  refine bodyPost_ret (lin.results_row_tmp Tryz.results9 _ _ (w.heap.size + 1 + 1) _ #[.int .i64 0, .int .i64 0, .int .i64 0, .int .i64 0, .bool false, .string ⟨#[]⟩, .slice none 0 0, .slice none 0 0] _ _ rfl (bk_set8 HR1.out _ _ _ _ _ _ _ _) Tryz.underlying25 rfl infoNode) rfl ?_
  exact ⟨rfl, (kp_set8 (E := none) (k := w.heap.size + 1 + 1) (Kp.of_below HF.out) (by omega) _ _ _ _ _ _ _ _).none⟩
def zT : Nd := .mk 0 0 0 0 false ⟨#[]⟩ [] []
theorem same_z (W : World) : Calls Tryz.prog 10 #[.agg #[.int .i64 0, .int .i64 0, .int .i64 0, .int .i64 0, .bool false, .string ⟨#[]⟩, .slice none 0 0, .slice none 0 0], .agg #[.int .i64 0, .int .i64 0, .int .i64 0, .int .i64 0, .bool false, .string ⟨#[]⟩, .slice none 0 0, .slice none 0 0]] W fun e w' => e = .returned (.bool true) ∧ Below W.heap.size W w' := by
  have h : NV W.heap.size W zT (.agg #[.int .i64 0, .int .i64 0, .int .i64 0, .int .i64 0, .bool false, .string ⟨#[]⟩, .slice none 0 0, .slice none 0 0]) := nv_leaf W.heap.size W 0 0 0 0 false ⟨#[]⟩ (i64s (by decide) (by decide)) (i64s (by decide) (by decide)) (i64s (by decide) (by decide)) (i64s (by decide) (by decide)) (by decide)
  exact tre.same_any 1 zT _ _ W (by decide) h h
end Go.Proofs.YtinlolmjafjhnaaGreatDoor.low
end

section
/- The walk of LowerNobody. -/
set_option linter.unusedVariables false
set_option linter.unusedSimpArgs false
namespace Go.Proofs.YtinlolmjafjhnaaGreatDoor.low
open Go.RowKit nod
open Go.Proofs.YtinlolmjafjhnaaGreatDoor.rng (R has IsSet Sl code CanF RV ret_int ret_bool info_parts)
open Go.Proofs.YtinlolmjafjhnaaGreatDoor.cls (Set_any Set_none Ans errS fitN shortN shortL own_sl i64s cells4 cells8 negP combP wideP withP IsP)
open Go.Proofs.YtinlolmjafjhnaaGreatDoor.fld (sim toldB tpts has_one sim_untold told_iff IsClo)

set_option maxHeartbeats 4000000 in
set_option maxRecDepth 1000000 in
theorem nobody_walk (v : Value) (t : Nd) (c d mu : Bool) (fo : Int) (w : World) (hv : NV w.heap.size w t v) (E : prp.Env w) (P : PE w) :
    Calls Tryz.prog 4 #[v, .agg #[.bool c, .bool d, .bool mu, .int .i64 fo]] w fun e w' => e = .returned (.bool true) ∧ Below w.heap.size w w' := by
  obtain ⟨k, m, a, b, g, n, s, ks, ta, tc, ka, kc, rfl, rfl, _⟩ := hv.open
  clear hv
  generalize s.length = tl at *
  generalize ks.length = kl at *
  have HE : Hid (prp.Env w ∧ PE w) := ⟨E, P⟩
  clear E P
  have HBB : Hid (Below w.heap.size w ((w.alloc (.cells #[.int .i64 k, .int .i64 m, .int .i64 a, .int .i64 b, .bool g, .string n, .slice ta tl tc, .slice ka kl kc] 25)).alloc (.cells #[.bool c, .bool d, .bool mu, .int .i64 fo] 30))) := ((Below.refl _ w).alloc (Nat.le_refl _) _).alloc (by simp) _
  have HBN : Hid (Bk ((w.alloc (.cells #[.int .i64 k, .int .i64 m, .int .i64 a, .int .i64 b, .bool g, .string n, .slice ta tl tc, .slice ka kl kc] 25)).alloc (.cells #[.bool c, .bool d, .bool mu, .int .i64 fo] 30)) w.heap.size #[.int .i64 k, .int .i64 m, .int .i64 a, .int .i64 b, .bool g, .string n, .slice ta tl tc, .slice ka kl kc] 25) := (Bk.new w _ _).past _
  have HBO : Hid (Bk ((w.alloc (.cells #[.int .i64 k, .int .i64 m, .int .i64 a, .int .i64 b, .bool g, .string n, .slice ta tl tc, .slice ka kl kc] 25)).alloc (.cells #[.bool c, .bool d, .bool mu, .int .i64 fo] 30)) (w.heap.size + 1) #[.bool c, .bool d, .bool mu, .int .i64 fo] 30) := bk2
  have hz : ((w.alloc (.cells #[.int .i64 k, .int .i64 m, .int .i64 a, .int .i64 b, .bool g, .string n, .slice ta tl tc, .slice ka kl kc] 25)).alloc (.cells #[.bool c, .bool d, .bool mu, .int .i64 fo] 30)).heap.size = w.heap.size + 1 + 1 := by simp
  generalize hW0 : ((w.alloc (.cells #[.int .i64 k, .int .i64 m, .int .i64 a, .int .i64 b, .bool g, .string n, .slice ta tl tc, .slice ka kl kc] 25)).alloc (.cells #[.bool c, .bool d, .bool mu, .int .i64 fo] 30)) = U0 at *
  have HW1 : Hid (Below w.heap.size w ((U0.alloc (.cells #[.pointer none, .slice none 0 0, .pointer none, .slice none 0 0, .pointer none, .slice none 0 0, .pointer none, .slice none 0 0, .pointer none, .slice none 0 0, .map none, .map none, .map none, .map none] 43)).alloc (.cells #[.pointer none, .pointer (some ⟨U0.heap.size, 0, none⟩)] 31))) := HBB.out.trans ((((Below.refl _ U0).alloc (Nat.le_refl _) _).alloc (by simp) _).mono HBB.out.size)
  have HBN1 : Hid (Bk ((U0.alloc (.cells #[.pointer none, .slice none 0 0, .pointer none, .slice none 0 0, .pointer none, .slice none 0 0, .pointer none, .slice none 0 0, .pointer none, .slice none 0 0, .map none, .map none, .map none, .map none] 43)).alloc (.cells #[.pointer none, .pointer (some ⟨U0.heap.size, 0, none⟩)] 31)) w.heap.size #[.int .i64 k, .int .i64 m, .int .i64 a, .int .i64 b, .bool g, .string n, .slice ta tl tc, .slice ka kl kc] 25) := (HBN.out.past _).past _
  have HBO1 : Hid (Bk ((U0.alloc (.cells #[.pointer none, .slice none 0 0, .pointer none, .slice none 0 0, .pointer none, .slice none 0 0, .pointer none, .slice none 0 0, .pointer none, .slice none 0 0, .map none, .map none, .map none, .map none] 43)).alloc (.cells #[.pointer none, .pointer (some ⟨U0.heap.size, 0, none⟩)] 31)) (w.heap.size + 1) #[.bool c, .bool d, .bool mu, .int .i64 fo] 30) := (HBO.out.past _).past _
  have HBT1 : Hid (Bk ((U0.alloc (.cells #[.pointer none, .slice none 0 0, .pointer none, .slice none 0 0, .pointer none, .slice none 0 0, .pointer none, .slice none 0 0, .pointer none, .slice none 0 0, .map none, .map none, .map none, .map none] 43)).alloc (.cells #[.pointer none, .pointer (some ⟨U0.heap.size, 0, none⟩)] 31)) U0.heap.size #[.pointer none, .slice none 0 0, .pointer none, .slice none 0 0, .pointer none, .slice none 0 0, .pointer none, .slice none 0 0, .pointer none, .slice none 0 0, .map none, .map none, .map none, .map none] 43) := (Bk.new U0 _ _).past _
  have HBP1 : Hid (Bk ((U0.alloc (.cells #[.pointer none, .slice none 0 0, .pointer none, .slice none 0 0, .pointer none, .slice none 0 0, .pointer none, .slice none 0 0, .pointer none, .slice none 0 0, .map none, .map none, .map none, .map none] 43)).alloc (.cells #[.pointer none, .pointer (some ⟨U0.heap.size, 0, none⟩)] 31)) (U0.heap.size + 1) #[.pointer none, .pointer (some ⟨U0.heap.size, 0, none⟩)] 31) := bk2
  rw [hz] at HBT1 HBP1 HW1 HBN1 HBO1
  clear HBB HBN HBO
  go_enter Tryz.func4, Tryz.ntmps4
  go_wp2
  try rw [hW0]
  generalize ((U0.alloc (.cells #[.pointer none, .slice none 0 0, .pointer none, .slice none 0 0, .pointer none, .slice none 0 0, .pointer none, .slice none 0 0, .pointer none, .slice none 0 0, .map none, .map none, .map none, .map none] 43)).alloc (.cells #[.pointer none, .pointer (some ⟨w.heap.size + 1 + 1, 0, none⟩)] 31)) = V1 at *
  clear hW0 hz
  refine wp_loop_rounds 3 ?_
  rw [rounds_succ]
  have p0 := HBP1.out.cell 0 (u := .pointer none) rfl
  obtain ⟨n0, n1, n2, n3, n4, n5, n6, n7⟩ := cells8 HBN1.out
  obtain ⟨q0, q1, q2, q3⟩ := cells4 HBO1.out
  have U : prp.Unmade V1 (.pointer none) := .inl rfl
  have C := lower_none (.pointer none) k m a b g n ta tl tc ka kl kc c d mu fo V1 U
  clear U
  go_wp2_with fail
  refine C.mono ?_
  rintro e V2 ⟨rfl, b2⟩
  clear C p0 n0 n1 n2 n3 n4 n5 n6 n7 q0 q1 q2 q3
  have HB2 : Hid (Below V1.heap.size V1 (V2.alloc (.cells #[.int .i64 0, .int .i64 0, .int .i64 0, .int .i64 0, .bool false, .string ⟨#[]⟩, .slice none 0 0, .slice none 0 0] 25))) := b2.trans (((Below.refl _ V2).alloc (Nat.le_refl _) _).mono b2.size)
  have C := same_z (V2.alloc (.cells #[.int .i64 0, .int .i64 0, .int .i64 0, .int .i64 0, .bool false, .string ⟨#[]⟩, .slice none 0 0, .slice none 0 0] 25))
  go_wp2_with fail
  refine C.mono ?_
  rintro e V3 ⟨rfl, b3⟩
  clear C
  have b4 : Below V1.heap.size V1 V3 := HB2.out.trans (below_less b3 HB2.out.size)
  have HW3 : Hid (Below w.heap.size w V3) := HW1.out.trans (b4.mono HW1.out.size)
  have HBN3 : Hid (Bk V3 w.heap.size #[.int .i64 k, .int .i64 m, .int .i64 a, .int .i64 b, .bool g, .string n, .slice ta tl tc, .slice ka kl kc] 25) := HBN1.out.on b4
  have HBO3 : Hid (Bk V3 (w.heap.size + 1) #[.bool c, .bool d, .bool mu, .int .i64 fo] 30) := HBO1.out.on b4
  have HBT3 : Hid (Bk V3 (w.heap.size + 1 + 1) #[.pointer none, .slice none 0 0, .pointer none, .slice none 0 0, .pointer none, .slice none 0 0, .pointer none, .slice none 0 0, .pointer none, .slice none 0 0, .map none, .map none, .map none, .map none] 43) := HBT1.out.on b4
  have HBP3 : Hid (Bk V3 (w.heap.size + 1 + 1 + 1) #[.pointer none, .pointer (some ⟨w.heap.size + 1 + 1, 0, none⟩)] 31) := HBP1.out.on b4
  clear b2 b3 b4 HB2 HBN1 HBO1 HBT1 HBP1 HW1
  go_wp2
  rw [rounds_succ]
  have p0 := HBP3.out.cell 1 (u := .pointer (some ⟨w.heap.size + 1 + 1, 0, none⟩)) rfl
  obtain ⟨n0, n1, n2, n3, n4, n5, n6, n7⟩ := cells8 HBN3.out
  obtain ⟨q0, q1, q2, q3⟩ := cells4 HBO3.out
  have U : prp.Unmade V3 (.pointer (some ⟨w.heap.size + 1 + 1, 0, none⟩)) := .inr ⟨_, rfl, HBT3.out.cell 0 rfl⟩
  have C := lower_none (.pointer (some ⟨w.heap.size + 1 + 1, 0, none⟩)) k m a b g n ta tl tc ka kl kc c d mu fo V3 U
  clear U
  go_wp2_with fail
  refine C.mono ?_
  rintro e V4 ⟨rfl, b2⟩
  clear C p0 n0 n1 n2 n3 n4 n5 n6 n7 q0 q1 q2 q3
  have HB2 : Hid (Below V3.heap.size V3 (V4.alloc (.cells #[.int .i64 0, .int .i64 0, .int .i64 0, .int .i64 0, .bool false, .string ⟨#[]⟩, .slice none 0 0, .slice none 0 0] 25))) := b2.trans (((Below.refl _ V4).alloc (Nat.le_refl _) _).mono b2.size)
  have C := same_z (V4.alloc (.cells #[.int .i64 0, .int .i64 0, .int .i64 0, .int .i64 0, .bool false, .string ⟨#[]⟩, .slice none 0 0, .slice none 0 0] 25))
  go_wp2_with fail
  refine C.mono ?_
  rintro e V5 ⟨rfl, b3⟩
  clear C
  have b4 : Below V3.heap.size V3 V5 := HB2.out.trans (below_less b3 HB2.out.size)
  have HW5 : Hid (Below w.heap.size w V5) := HW3.out.trans (b4.mono HW3.out.size)
  have HBN5 : Hid (Bk V5 w.heap.size #[.int .i64 k, .int .i64 m, .int .i64 a, .int .i64 b, .bool g, .string n, .slice ta tl tc, .slice ka kl kc] 25) := HBN3.out.on b4
  have HBO5 : Hid (Bk V5 (w.heap.size + 1) #[.bool c, .bool d, .bool mu, .int .i64 fo] 30) := HBO3.out.on b4
  have HBT5 : Hid (Bk V5 (w.heap.size + 1 + 1) #[.pointer none, .slice none 0 0, .pointer none, .slice none 0 0, .pointer none, .slice none 0 0, .pointer none, .slice none 0 0, .pointer none, .slice none 0 0, .map none, .map none, .map none, .map none] 43) := HBT3.out.on b4
  have HBP5 : Hid (Bk V5 (w.heap.size + 1 + 1 + 1) #[.pointer none, .pointer (some ⟨w.heap.size + 1 + 1, 0, none⟩)] 31) := HBP3.out.on b4
  clear b2 b3 b4 HB2 HBN3 HBO3 HBT3 HBP3 HW3
  go_wp2
  rw [rounds_succ]
  have C := awake_any V5 (HE.out.1.below HW5.out) (HE.out.2.below HW5.out)
  go_wp2_with fail
  refine C.mono ?_
  rintro e V6 ⟨rfl, b6⟩
  clear C
  go_wp2
  go_ret
  exact ⟨rfl, HW5.out.trans (b6.mono HW5.out.size)⟩
end Go.Proofs.YtinlolmjafjhnaaGreatDoor.low
end
