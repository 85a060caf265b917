/- Texts that the proof leans on, one behind the other. -/
import Derived.Test.YtinlolmjafjhnaaGreatDoorBdLow2
import Derived.Test.YtinlolmjafjhnaaGreatDoorBdLin3
import Derived.Test.YtinlolmjafjhnaaGreatDoorBdTre1
import Derived.Test.YtinlolmjafjhnaaGreatDoorBdNod1
import Derived.Test.YtinlolmjafjhnaaGreatDoorBdRng2
import Derived.Deep.RegionWith
import Derived.Laws.AppendOwnNone

section
/- walk.from and lower.Lower at the tree of one letter. -/
set_option linter.unusedVariables false
set_option linter.unusedSimpArgs false
namespace Go.Proofs.YtinlolmjafjhnaaGreatDoor.low
open Go.RowKit nod
open Go.Proofs.YtinlolmjafjhnaaGreatDoor.rng (R has IsSet Sl code CanF RV ret_int ret_bool info_parts)
open Go.Proofs.YtinlolmjafjhnaaGreatDoor.cls (Set_any Set_none Ans errS fitN shortN shortL own_sl i64s cells4 cells8 negP combP wideP withP IsP)
open Go.Proofs.YtinlolmjafjhnaaGreatDoor.fld (sim toldB tpts has_one sim_untold told_iff IsClo)

theorem cell_off8 {W : World} {k x i : Nat} {u x0 x1 x2 x3 x4 x5 x6 x7 : Value} (h : x ≠ k) (hc : W.cell? ⟨x, i, none⟩ = some u) : ((((((((W.setCell ⟨k, 0, none⟩ x0).setCell ⟨k, 1, none⟩ x1).setCell ⟨k, 2, none⟩ x2).setCell ⟨k, 3, none⟩ x3).setCell ⟨k, 4, none⟩ x4).setCell ⟨k, 5, none⟩ x5).setCell ⟨k, 6, none⟩ x6).setCell ⟨k, 7, none⟩ x7).cell? ⟨x, i, none⟩ = some u := by
 have e : ∀ (V : World) (j : Nat) (v : Value), (V.setCell ⟨k, j, none⟩ v).cell? ⟨x, i, none⟩ = V.cell? ⟨x, i, none⟩ := fun V j v => World.cell?_of_block (a := ⟨x, i, none⟩) (Below.heap_setCell _ _ _ _ h)
 rw [e, e, e, e, e, e, e, e]; exact hc
set_option maxHeartbeats 8000000 in
set_option maxRecDepth 1000000 in
theorem from_s {w0 W : World} {mb tb kb : Nat} (c : LC w0 W mb tb) (hkw : kb < W.heap.size) (hkm : kb ≠ mb) (h8 : Bk W kb #[.int .i64 1, .int .i64 0, .int .i64 97, .int .i64 0, .bool false, .string ⟨#[]⟩, .slice none 0 0, .slice none 0 0] 25) : Calls Tryz.prog 50 #[.agg #[.int .i64 6, .int .i64 0, .int .i64 0, .int .i64 0, .bool false, .string ⟨#[]⟩, .slice none 0 0, .slice (some ⟨kb, 0, none⟩) 1 1], .int .i64 0, .func (.func 22) #[] #[], .func (.func 24) #[] #[.pointer (some ⟨mb, 0, none⟩)]] W fun e w' => ∃ g cap a cp, e = .returned (.agg #[.int .i64 6, .int .i64 0, .int .i64 0, .int .i64 0, .bool false, .string ⟨#[]⟩, .slice none 0 0, .slice (some ⟨g, 0, none⟩) 1 cap]) ∧ LC w0 w' mb tb ∧ Kp (some mb) W w' ∧ w'.cell? ⟨g, 6, none⟩ = some (.slice a 2 cp) ∧ W.heap.size ≤ g := by
 have HB : Hid (Below W.heap.size W ((W.alloc (.cells #[.int .i64 6, .int .i64 0, .int .i64 0, .int .i64 0, .bool false, .string ⟨#[]⟩, .slice none 0 0, .slice (some ⟨kb, 0, none⟩) 1 1] 25)).alloc (.cells #[.int .i64 0, .int .i64 0, .int .i64 0, .int .i64 0, .bool false, .string ⟨#[]⟩, .slice none 0 0, .slice none 0 0] 25))) := below2 _ _ _
 have HX : Hid (Bk ((W.alloc (.cells #[.int .i64 6, .int .i64 0, .int .i64 0, .int .i64 0, .bool false, .string ⟨#[]⟩, .slice none 0 0, .slice (some ⟨kb, 0, none⟩) 1 1] 25)).alloc (.cells #[.int .i64 0, .int .i64 0, .int .i64 0, .int .i64 0, .bool false, .string ⟨#[]⟩, .slice none 0 0, .slice none 0 0] 25)) W.heap.size #[.int .i64 6, .int .i64 0, .int .i64 0, .int .i64 0, .bool false, .string ⟨#[]⟩, .slice none 0 0, .slice (some ⟨kb, 0, none⟩) 1 1] 25) := (Bk.new W _ _).past _
 have HR : Hid (Bk ((W.alloc (.cells #[.int .i64 6, .int .i64 0, .int .i64 0, .int .i64 0, .bool false, .string ⟨#[]⟩, .slice none 0 0, .slice (some ⟨kb, 0, none⟩) 1 1] 25)).alloc (.cells #[.int .i64 0, .int .i64 0, .int .i64 0, .int .i64 0, .bool false, .string ⟨#[]⟩, .slice none 0 0, .slice none 0 0] 25)) (W.heap.size + 1) #[.int .i64 0, .int .i64 0, .int .i64 0, .int .i64 0, .bool false, .string ⟨#[]⟩, .slice none 0 0, .slice none 0 0] 25) := bk2
 have hz : ((W.alloc (.cells #[.int .i64 6, .int .i64 0, .int .i64 0, .int .i64 0, .bool false, .string ⟨#[]⟩, .slice none 0 0, .slice (some ⟨kb, 0, none⟩) 1 1] 25)).alloc (.cells #[.int .i64 0, .int .i64 0, .int .i64 0, .int .i64 0, .bool false, .string ⟨#[]⟩, .slice none 0 0, .slice none 0 0] 25)).heap.size = W.heap.size + 1 + 1 := by simp
 have CE := enter_s kb 0 ((W.alloc (.cells #[.int .i64 6, .int .i64 0, .int .i64 0, .int .i64 0, .bool false, .string ⟨#[]⟩, .slice none 0 0, .slice (some ⟨kb, 0, none⟩) 1 1] 25)).alloc (.cells #[.int .i64 0, .int .i64 0, .int .i64 0, .int .i64 0, .bool false, .string ⟨#[]⟩, .slice none 0 0, .slice none 0 0] 25))
 have HC : Hid (LC w0 W mb tb) := c
 have H8 : Hid (Bk W kb #[.int .i64 1, .int .i64 0, .int .i64 97, .int .i64 0, .bool false, .string ⟨#[]⟩, .slice none 0 0, .slice none 0 0] 25) := h8
 have hmb := c.blk.lt
 have hw0 := c.bel.size
 obtain ⟨i0, hi, hz0, hz1, hz2⟩ := info_parts infoNd
 clear c h8
 go_enter Tryz.func50, Tryz.ntmps50
 go_wp2_with fail
 refine CE.mono ?_
 rintro e w1 ⟨rfl, b1⟩
 clear CE
 have HC1 : Hid (LC w0 w1 mb tb) := (HC.out.on HB.out).on b1
 have HK1 : Hid (Kp (some mb) W w1) := (Kp.of_below HB.out).trans (Kp.of_below b1)
 have HR1 : Hid (Bk w1 (W.heap.size + 1) #[.int .i64 0, .int .i64 0, .int .i64 0, .int .i64 0, .bool false, .string ⟨#[]⟩, .slice none 0 0, .slice none 0 0] 25) := HR.out.on b1
 have HX1 : Hid (Bk w1 W.heap.size #[.int .i64 6, .int .i64 0, .int .i64 0, .int .i64 0, .bool false, .string ⟨#[]⟩, .slice none 0 0, .slice (some ⟨kb, 0, none⟩) 1 1] 25) := HX.out.on b1
 have H81 : Hid (Bk w1 kb #[.int .i64 1, .int .i64 0, .int .i64 97, .int .i64 0, .bool false, .string ⟨#[]⟩, .slice none 0 0, .slice none 0 0] 25) := (H8.out.on HB.out).on b1
 have q7 := HX1.out.cell 7 (u := .slice (some ⟨kb, 0, none⟩) 1 1) rfl
 have hw1 : W.heap.size + 1 + 1 ≤ w1.heap.size := by have := b1.size; omega
 clear b1 HX HR HB HC H8
 go_wp2
 refine wp_loop_rounds 2 ?_
 rw [rounds_succ]
 obtain ⟨x0, x1, x2, x3, x4, x5, x6, x7⟩ := cells8 H81.out
 have CF := from_a 1 (HC1.out.on ((Below.refl _ w1).alloc (Nat.le_refl _) (.cells #[.int .i64 1, .int .i64 0, .int .i64 97, .int .i64 0, .bool false, .string ⟨#[]⟩, .slice none 0 0, .slice none 0 0] 25)))
 have HO0 : w1.ownsRow (W.heap.size + 1 + 1) 25 8 (.slice none 0 0) 0 [] := World.ownsRow_nil _ _ _ _
 have HKA : Hid (Kp (some mb) W (w1.alloc (.cells #[.int .i64 1, .int .i64 0, .int .i64 97, .int .i64 0, .bool false, .string ⟨#[]⟩, .slice none 0 0, .slice none 0 0] 25))) := HK1.out.alloc _
 have HXA : Hid (Bk (w1.alloc (.cells #[.int .i64 1, .int .i64 0, .int .i64 97, .int .i64 0, .bool false, .string ⟨#[]⟩, .slice none 0 0, .slice none 0 0] 25)) W.heap.size #[.int .i64 6, .int .i64 0, .int .i64 0, .int .i64 0, .bool false, .string ⟨#[]⟩, .slice none 0 0, .slice (some ⟨kb, 0, none⟩) 1 1] 25) := HX1.out.past _
 have HRA : Hid (Bk (w1.alloc (.cells #[.int .i64 1, .int .i64 0, .int .i64 97, .int .i64 0, .bool false, .string ⟨#[]⟩, .slice none 0 0, .slice none 0 0] 25)) (W.heap.size + 1) #[.int .i64 0, .int .i64 0, .int .i64 0, .int .i64 0, .bool false, .string ⟨#[]⟩, .slice none 0 0, .slice none 0 0] 25) := HR1.out.past _
 go_wp2_with fail
 refine CF.mono ?_
 rintro e w2 ⟨a, cp, rfl, c2, k2⟩
 clear CF x0 x1 x2 x3 x4 x5 x6 x7 q7 HK1 HX1 HR1 H81 HO0
 have HC2 : Hid (LC w0 w2 mb tb) := c2
 have HK2 : Hid (Kp (some mb) W w2) := HKA.out.trans k2
 have HX2 : Hid (Bk w2 W.heap.size #[.int .i64 6, .int .i64 0, .int .i64 0, .int .i64 0, .bool false, .string ⟨#[]⟩, .slice none 0 0, .slice (some ⟨kb, 0, none⟩) 1 1] 25) := HXA.out.kp k2 (fun e => by cases e; omega)
 have HR2 : Hid (Bk w2 (W.heap.size + 1) #[.int .i64 0, .int .i64 0, .int .i64 0, .int .i64 0, .bool false, .string ⟨#[]⟩, .slice none 0 0, .slice none 0 0] 25) := HRA.out.kp k2 (fun e => by cases e; omega)
 have hw2 : W.heap.size + 1 + 1 ≤ w2.heap.size := by have := k2.size; simp at this; omega
 have own2 : w2.ownsRow (W.heap.size + 1 + 1) 25 8 (.slice none 0 0) 0 [] := World.ownsRow_nil _ _ _ _
 clear c2 k2 HKA HXA HRA HC1
 unfold S15
 go_wp2_with (at_builtin; refine wpList_append_own _ rfl _ _ 23 rfl (W.heap.size + 1 + 1) 25 i0 (.agg #[.int .i64 0, .int .i64 0, .int .i64 0, .int .i64 0, .bool false, .string ⟨#[]⟩, .slice none 0 0, .slice none 0 0]) 8 104 Tryz.underlying23 hi hz0 hz1 hz2 rfl (by decide) _ _ _ rfl (own2.alloc _) ⟨w2.heap.size, 0, none⟩ 1 1 [.int .i64 15, .int .i64 0, .int .i64 0, .int .i64 0, .bool false, .string ⟨#[]⟩, .slice a 2 cp, .slice none 0 0] rfl rfl ?c1 ?c2 ?c3 ?c4 ?c5 ?_)
 case c1 => intro i u hu; match i, hu with
  | 0, hu => simp at hu; subst hu; simp [Addr.add]
  | 1, hu => simp at hu; subst hu; simp [Addr.add]
  | 2, hu => simp at hu; subst hu; simp [Addr.add]
  | 3, hu => simp at hu; subst hu; simp [Addr.add]
  | 4, hu => simp at hu; subst hu; simp [Addr.add]
  | 5, hu => simp at hu; subst hu; simp [Addr.add]
  | 6, hu => simp at hu; subst hu; simp [Addr.add]
  | 7, hu => simp at hu; subst hu; simp [Addr.add]
  | i + 8, hu => simp at hu
 case c2 => intro u hu; simp at hu; rcases hu with rfl | rfl | rfl | rfl | rfl | rfl <;> rfl
 case c3 => unfold maxLen; omega
 case c4 => omega
 case c5 => simp; omega
 intro v' w3 hown3 hgrow _
 have KA : Below (W.heap.size + 1 + 1) w2 w3 := Below.grown ((Below.refl _ w2).alloc hw2 _) hgrow (by simp; omega) (fun z e => (own2.lt _ e).1)
 obtain ⟨gg, cap, rfl, hge⟩ : ∃ gg cap, v' = .slice (some ⟨gg, 0, none⟩) 1 cap ∧ W.heap.size + 1 + 1 ≤ gg := by
  rcases hown3.2 with ⟨_, h0⟩ | ⟨gg, cap, cur, rfl, hg, _⟩
  ·omega
  ·exact ⟨gg, cap, rfl, hg⟩
 have H6 : Hid (w3.cell? ⟨gg, 6, none⟩ = some (.slice a 2 cp)) := by have := hown3.cellAt 6 (by simp); simpa [Hid] using this
 have HK3 : Hid (Kp (some mb) W w3) := HK2.out.then (below_less KA (by omega))
 have HX3 : Hid (Bk w3 W.heap.size #[.int .i64 6, .int .i64 0, .int .i64 0, .int .i64 0, .bool false, .string ⟨#[]⟩, .slice none 0 0, .slice (some ⟨kb, 0, none⟩) 1 1] 25) := HX2.out.keep KA (by omega)
 have HR3 : Hid (Bk w3 (W.heap.size + 1) #[.int .i64 0, .int .i64 0, .int .i64 0, .int .i64 0, .bool false, .string ⟨#[]⟩, .slice none 0 0, .slice none 0 0] 25) := HR2.out.keep KA (by omega)
 have HC3 : Hid (LC w0 w3 mb tb) := ⟨HC2.out.tabs, HC2.out.env, HC2.out.bel.trans (below_less KA (by omega)), HC2.out.ge, HC2.out.blk.keep KA (by omega)⟩
 have HG : Hid (gg < w3.heap.size) := World.block_lt_of_cell? w3 _ H6.out
 clear hown3 hgrow KA own2 HK2 HX2 HR2 HC2
 go_wp2
 rw [rounds_succ]
 obtain ⟨x0, x1, x2, x3, x4, x5, x6, x7⟩ := cells8 HX3.out
 have CJ := join_s kb gg cap (.pointer (some ⟨mb, 0, none⟩)) w3
 go_wp2_with fail
 refine CJ.mono ?_
 rintro e w4 ⟨rfl, b4⟩
 clear CJ x0 x1 x2 x3 x4 x5 x6 x7
 have HC4 : Hid (LC w0 w4 mb tb) := HC3.out.on b4
 have HK4 : Hid (Kp (some mb) W w4) := HK3.out.trans (Kp.of_below b4)
 have HR4 : Hid (Bk w4 (W.heap.size + 1) #[.int .i64 0, .int .i64 0, .int .i64 0, .int .i64 0, .bool false, .string ⟨#[]⟩, .slice none 0 0, .slice none 0 0] 25) := HR3.out.on b4
 have H64 : Hid (w4.cell? ⟨gg, 6, none⟩ = some (.slice a 2 cp)) := (b4.cell (p := ⟨gg, 6, none⟩) HG.out).trans H6.out
 clear b4 HC3 HK3 HR3 HX3 H6 HG
 obtain ⟨⟨x0, x1, x2, x3, x4, x5, x6, x7⟩, y0, y1, y2, y3, y4, y5, y6, y7⟩ := open8 HR4.out
 go_wp2
 refine bodyPost_ret (results_cell_row Tryz.results50 _ _ (W.heap.size + 1) _ #[.int .i64 6, .int .i64 0, .int .i64 0, .int .i64 0, .bool false, .string ⟨#[]⟩, .slice none 0 0, .slice (some ⟨gg, 0, none⟩) 1 cap] _ _ rfl (bk_set8 HR4.out _ _ _ _ _ _ _ _) Tryz.underlying25 rfl infoNode) rfl ?_
 exact ⟨gg, cap, a, cp, rfl, HC4.out.off8 (k := W.heap.size + 1) (by omega) (by omega) _ _ _ _ _ _ _ _, kp_set8 HK4.out (by omega) _ _ _ _ _ _ _ _, cell_off8 (by omega) H64.out, by omega⟩
end Go.Proofs.YtinlolmjafjhnaaGreatDoor.low
end

section
/- lower.Lower at the tree of one letter and at tables that no call made; awake; the walk of LowerNobody. -/
set_option linter.unusedVariables false
set_option linter.unusedSimpArgs false
namespace Go.Proofs.YtinlolmjafjhnaaGreatDoor.low
open Go.RowKit nod
open Go.Proofs.YtinlolmjafjhnaaGreatDoor.rng (R has IsSet Sl code CanF RV ret_int ret_bool info_parts)
open Go.Proofs.YtinlolmjafjhnaaGreatDoor.cls (Set_any Set_none Ans errS fitN shortN shortL own_sl i64s cells4 cells8 negP combP wideP withP IsP)
open Go.Proofs.YtinlolmjafjhnaaGreatDoor.fld (sim toldB tpts has_one sim_untold told_iff IsClo)

set_option maxHeartbeats 4000000 in
set_option maxRecDepth 1000000 in
theorem up_s {w0 W : World} {mb tb kb : Nat} (c : LC w0 W mb tb) (hkw : kb < W.heap.size) (hkm : kb ≠ mb) (h8 : Bk W kb #[.int .i64 1, .int .i64 0, .int .i64 97, .int .i64 0, .bool false, .string ⟨#[]⟩, .slice none 0 0, .slice none 0 0] 25) : Calls Tryz.prog 21 #[.agg #[.int .i64 6, .int .i64 0, .int .i64 0, .int .i64 0, .bool false, .string ⟨#[]⟩, .slice none 0 0, .slice (some ⟨kb, 0, none⟩) 1 1], .func (.func 22) #[] #[], .func (.func 24) #[] #[.pointer (some ⟨mb, 0, none⟩)]] W fun e w' => ∃ g cap a cp, e = .returned (.agg #[.int .i64 6, .int .i64 0, .int .i64 0, .int .i64 0, .bool false, .string ⟨#[]⟩, .slice none 0 0, .slice (some ⟨g, 0, none⟩) 1 cap]) ∧ LC w0 w' mb tb ∧ Kp (some mb) W w' ∧ w'.cell? ⟨g, 6, none⟩ = some (.slice a 2 cp) ∧ W.heap.size ≤ g := by
 have HB : Hid (Below W.heap.size W ((W.alloc (.cells #[.int .i64 6, .int .i64 0, .int .i64 0, .int .i64 0, .bool false, .string ⟨#[]⟩, .slice none 0 0, .slice (some ⟨kb, 0, none⟩) 1 1] 25)).alloc (.cells #[.int .i64 0, .int .i64 0, .int .i64 0, .int .i64 0, .bool false, .string ⟨#[]⟩, .slice none 0 0, .slice none 0 0] 25))) := below2 _ _ _
 have HR : Hid (Bk ((W.alloc (.cells #[.int .i64 6, .int .i64 0, .int .i64 0, .int .i64 0, .bool false, .string ⟨#[]⟩, .slice none 0 0, .slice (some ⟨kb, 0, none⟩) 1 1] 25)).alloc (.cells #[.int .i64 0, .int .i64 0, .int .i64 0, .int .i64 0, .bool false, .string ⟨#[]⟩, .slice none 0 0, .slice none 0 0] 25)) (W.heap.size + 1) #[.int .i64 0, .int .i64 0, .int .i64 0, .int .i64 0, .bool false, .string ⟨#[]⟩, .slice none 0 0, .slice none 0 0] 25) := bk2
 have hz : ((W.alloc (.cells #[.int .i64 6, .int .i64 0, .int .i64 0, .int .i64 0, .bool false, .string ⟨#[]⟩, .slice none 0 0, .slice (some ⟨kb, 0, none⟩) 1 1] 25)).alloc (.cells #[.int .i64 0, .int .i64 0, .int .i64 0, .int .i64 0, .bool false, .string ⟨#[]⟩, .slice none 0 0, .slice none 0 0] 25)).heap.size = W.heap.size + 1 + 1 := by simp
 have CF := from_s (c.on HB.out) (by omega) hkm (h8.on HB.out)
 have hmb := c.blk.lt
 have hw0 := c.bel.size
 clear c h8
 go_enter Tryz.func21, Tryz.ntmps21
 go_wp2_with fail
 refine CF.mono ?_
 rintro e w2 ⟨gg, cap, a, cp, rfl, c2, k2, h6, hg⟩
 clear CF
 have HC2 : Hid (LC w0 w2 mb tb) := c2
 have HK2 : Hid (Kp (some mb) W w2) := (Kp.of_below HB.out).trans k2
 have HR2 : Hid (Bk w2 (W.heap.size + 1) #[.int .i64 0, .int .i64 0, .int .i64 0, .int .i64 0, .bool false, .string ⟨#[]⟩, .slice none 0 0, .slice none 0 0] 25) := HR.out.kp k2 (fun e => by cases e; omega)
 have H6 : Hid (w2.cell? ⟨gg, 6, none⟩ = some (.slice a 2 cp)) := h6
 have hgg : W.heap.size + 1 + 1 ≤ gg := by omega
 clear c2 k2 h6 hg HB HR hz
 obtain ⟨⟨x0, x1, x2, x3, x4, x5, x6, x7⟩, y0, y1, y2, y3, y4, y5, y6, y7⟩ := open8 HR2.out
 go_wp2
 refine bodyPost_ret (results_cell_row Tryz.results21 _ _ (W.heap.size + 1) _ #[.int .i64 6, .int .i64 0, .int .i64 0, .int .i64 0, .bool false, .string ⟨#[]⟩, .slice none 0 0, .slice (some ⟨gg, 0, none⟩) 1 cap] _ _ rfl (bk_set8 HR2.out _ _ _ _ _ _ _ _) Tryz.underlying25 rfl infoNode) rfl ?_
 exact ⟨gg, cap, a, cp, rfl, HC2.out.off8 (k := W.heap.size + 1) (by omega) (by omega) _ _ _ _ _ _ _ _, kp_set8 HK2.out (by omega) _ _ _ _ _ _ _ _, cell_off8 (by omega) H6.out, by omega⟩
def yT : Nd := .mk 2 0 0 0 false ⟨#[]⟩ [] []
theorem y_err : errS 1 1 yT = 0 := by decide
theorem y_sz : yT.sz ≤ 1 := by decide
theorem y_short : shortN yT := by
 simp only [yT, shortN, shortL]
 exact ⟨by decide, trivial⟩
theorem set_y (tb : Nat) (W : World) (hT : prp.Tabs W tb) (hE : prp.Env W) : Calls Tryz.prog 19 #[.pointer (some ⟨tb, 0, none⟩), .agg #[.int .i64 2, .int .i64 0, .int .i64 0, .int .i64 0, .bool false, .string ⟨#[]⟩, .slice none 0 0, .slice none 0 0], .agg #[.bool false, .bool false, .bool false, .int .i64 1]] W fun e w' => ∃ a n c, e = .returned (.tuple #[.slice a n c, .int .i64 0]) ∧ Below W.heap.size W w' := by
 have C := Set_any 1 (by decide) yT _ W.heap.size W tb false false false 1 y_sz y_short (nv_leaf W.heap.size W 2 0 0 0 false ⟨#[]⟩ (i64s (by decide) (by decide)) (i64s (by decide) (by decide)) (i64s (by decide) (by decide)) (i64s (by decide) (by decide)) (by decide)) (Nat.le_refl _) hT hE
 rw [y_err] at C
 unfold Ans at C
 refine C.mono ?_
 rintro e w2 ⟨v2, r, rfl, o2, i2, _, b2⟩
 obtain ⟨ya, yc, hy⟩ := own_sl o2
 subst hy
 exact ⟨ya, _, yc, rfl, b2⟩
set_option maxHeartbeats 8000000 in
set_option maxRecDepth 1000000 in
theorem lower_a (w : World) (tb kb : Nat) (hT : prp.Tabs w tb) (hE : prp.Env w) (hP : PE w) (h8 : Bk w kb #[.int .i64 1, .int .i64 0, .int .i64 97, .int .i64 0, .bool false, .string ⟨#[]⟩, .slice none 0 0, .slice none 0 0] 25) : Calls Tryz.prog 9 #[.pointer (some ⟨tb, 0, none⟩), .agg #[.int .i64 6, .int .i64 0, .int .i64 0, .int .i64 0, .bool false, .string ⟨#[]⟩, .slice none 0 0, .slice (some ⟨kb, 0, none⟩) 1 1], .agg #[.bool false, .bool false, .bool false, .int .i64 1]] w fun e w' => ∃ g cap a cp, e = .returned (.tuple #[.agg #[.int .i64 6, .int .i64 0, .int .i64 0, .int .i64 0, .bool false, .string ⟨#[]⟩, .slice none 0 0, .slice (some ⟨g, 0, none⟩) 1 cap], .int .i64 0]) ∧ Below w.heap.size w w' ∧ w'.cell? ⟨g, 6, none⟩ = some (.slice a 2 cp) := by
 have HB : Hid (Below w.heap.size w (((w.alloc (.cells #[.int .i64 6, .int .i64 0, .int .i64 0, .int .i64 0, .bool false, .string ⟨#[]⟩, .slice none 0 0, .slice (some ⟨kb, 0, none⟩) 1 1] 25)).alloc (.cells #[.bool false, .bool false, .bool false, .int .i64 1] 30)).alloc (.cells #[.int .i64 0, .int .i64 0, .int .i64 0, .int .i64 0, .bool false, .string ⟨#[]⟩, .slice none 0 0, .slice none 0 0] 25))) := ((below2 _ _ _).trans (((Below.refl _ _).alloc (Nat.le_refl _) _).mono (by simp; omega)))
 have HX : Hid (Bk (((w.alloc (.cells #[.int .i64 6, .int .i64 0, .int .i64 0, .int .i64 0, .bool false, .string ⟨#[]⟩, .slice none 0 0, .slice (some ⟨kb, 0, none⟩) 1 1] 25)).alloc (.cells #[.bool false, .bool false, .bool false, .int .i64 1] 30)).alloc (.cells #[.int .i64 0, .int .i64 0, .int .i64 0, .int .i64 0, .bool false, .string ⟨#[]⟩, .slice none 0 0, .slice none 0 0] 25)) w.heap.size #[.int .i64 6, .int .i64 0, .int .i64 0, .int .i64 0, .bool false, .string ⟨#[]⟩, .slice none 0 0, .slice (some ⟨kb, 0, none⟩) 1 1] 25) := ((Bk.new w _ _).past _).past _
 have HO : Hid (Bk (((w.alloc (.cells #[.int .i64 6, .int .i64 0, .int .i64 0, .int .i64 0, .bool false, .string ⟨#[]⟩, .slice none 0 0, .slice (some ⟨kb, 0, none⟩) 1 1] 25)).alloc (.cells #[.bool false, .bool false, .bool false, .int .i64 1] 30)).alloc (.cells #[.int .i64 0, .int .i64 0, .int .i64 0, .int .i64 0, .bool false, .string ⟨#[]⟩, .slice none 0 0, .slice none 0 0] 25)) (w.heap.size + 1) #[.bool false, .bool false, .bool false, .int .i64 1] 30) := bk2.past _
 have HR : Hid (Bk (((w.alloc (.cells #[.int .i64 6, .int .i64 0, .int .i64 0, .int .i64 0, .bool false, .string ⟨#[]⟩, .slice none 0 0, .slice (some ⟨kb, 0, none⟩) 1 1] 25)).alloc (.cells #[.bool false, .bool false, .bool false, .int .i64 1] 30)).alloc (.cells #[.int .i64 0, .int .i64 0, .int .i64 0, .int .i64 0, .bool false, .string ⟨#[]⟩, .slice none 0 0, .slice none 0 0] 25)) (w.heap.size + 1 + 1) #[.int .i64 0, .int .i64 0, .int .i64 0, .int .i64 0, .bool false, .string ⟨#[]⟩, .slice none 0 0, .slice none 0 0] 25) := by
  have := Bk.new ((w.alloc (.cells #[.int .i64 6, .int .i64 0, .int .i64 0, .int .i64 0, .bool false, .string ⟨#[]⟩, .slice none 0 0, .slice (some ⟨kb, 0, none⟩) 1 1] 25)).alloc (.cells #[.bool false, .bool false, .bool false, .int .i64 1] 30)) #[.int .i64 0, .int .i64 0, .int .i64 0, .int .i64 0, .bool false, .string ⟨#[]⟩, .slice none 0 0, .slice none 0 0] 25
  simpa [Hid] using this
 have hz : (((w.alloc (.cells #[.int .i64 6, .int .i64 0, .int .i64 0, .int .i64 0, .bool false, .string ⟨#[]⟩, .slice none 0 0, .slice (some ⟨kb, 0, none⟩) 1 1] 25)).alloc (.cells #[.bool false, .bool false, .bool false, .int .i64 1] 30)).alloc (.cells #[.int .i64 0, .int .i64 0, .int .i64 0, .int .i64 0, .bool false, .string ⟨#[]⟩, .slice none 0 0, .slice none 0 0] 25)).heap.size = w.heap.size + 1 + 1 + 1 := by simp
 have CY := set_y tb (((w.alloc (.cells #[.int .i64 6, .int .i64 0, .int .i64 0, .int .i64 0, .bool false, .string ⟨#[]⟩, .slice none 0 0, .slice (some ⟨kb, 0, none⟩) 1 1] 25)).alloc (.cells #[.bool false, .bool false, .bool false, .int .i64 1] 30)).alloc (.cells #[.int .i64 0, .int .i64 0, .int .i64 0, .int .i64 0, .bool false, .string ⟨#[]⟩, .slice none 0 0, .slice none 0 0] 25)) (hT.below HB.out) (hE.below HB.out)
 have HC : Hid (∀ W', Below w.heap.size w W' → Calls Tryz.prog 20 #[.agg #[.int .i64 6, .int .i64 0, .int .i64 0, .int .i64 0, .bool false, .string ⟨#[]⟩, .slice none 0 0, .slice (some ⟨kb, 0, none⟩) 1 1]] W' fun e w' => e = .returned (.bool true) ∧ Below W'.heap.size W' w') := fun W' h => can_1 (hP.below h) (Nat.le_refl 1) (Nat.lt_of_lt_of_le h8.lt h.size) (at8_first (h8.on h))
 have HU : Hid (∀ W' mb, LC w W' mb tb → Below w.heap.size w W' → Calls Tryz.prog 21 #[.agg #[.int .i64 6, .int .i64 0, .int .i64 0, .int .i64 0, .bool false, .string ⟨#[]⟩, .slice none 0 0, .slice (some ⟨kb, 0, none⟩) 1 1], .func (.func 22) #[] #[], .func (.func 24) #[] #[.pointer (some ⟨mb, 0, none⟩)]] W' fun e w' => ∃ g cap a cp, e = .returned (.agg #[.int .i64 6, .int .i64 0, .int .i64 0, .int .i64 0, .bool false, .string ⟨#[]⟩, .slice none 0 0, .slice (some ⟨g, 0, none⟩) 1 cap]) ∧ LC w w' mb tb ∧ Kp (some mb) W' w' ∧ w'.cell? ⟨g, 6, none⟩ = some (.slice a 2 cp) ∧ W'.heap.size ≤ g) := fun W' mb h1 h2 => up_s h1 (Nat.lt_of_lt_of_le h8.lt h2.size) (by have := h8.lt; have := h1.ge; omega) (h8.on h2)
 have HT : Hid (prp.Tabs w tb ∧ prp.Env w) := ⟨hT, hE⟩
 clear hT hE hP h8
 go_enter Tryz.func9, Tryz.ntmps9
 go_wp2_with fail
 refine CY.mono ?_
 rintro e w1 ⟨sa, sn, sc, rfl, b1⟩
 clear CY
 have HB1 : Hid (Below w.heap.size w w1) := HB.out.trans (below_less b1 (by omega))
 have HX1 : Hid (Bk w1 w.heap.size #[.int .i64 6, .int .i64 0, .int .i64 0, .int .i64 0, .bool false, .string ⟨#[]⟩, .slice none 0 0, .slice (some ⟨kb, 0, none⟩) 1 1] 25) := HX.out.on b1
 have HO1 : Hid (Bk w1 (w.heap.size + 1) #[.bool false, .bool false, .bool false, .int .i64 1] 30) := HO.out.on b1
 have HR1 : Hid (Bk w1 (w.heap.size + 1 + 1) #[.int .i64 0, .int .i64 0, .int .i64 0, .int .i64 0, .bool false, .string ⟨#[]⟩, .slice none 0 0, .slice none 0 0] 25) := HR.out.on b1
 have hw1 : w.heap.size + 1 + 1 + 1 ≤ w1.heap.size := by have := b1.size; omega
 clear b1 HB HX HO HR hz
 obtain ⟨x0, x1, x2, x3, x4, x5, x6, x7⟩ := cells8 HX1.out
 have C := HC.out w1 HB1.out
 go_wp2_with fail
 refine C.mono ?_
 rintro e w2 ⟨rfl, b2⟩
 clear C x0 x1 x2 x3 x4 x5 x6 x7 HC
 have HB3 : Hid (Below w.heap.size w (w2.alloc (.cells #[.pointer (some ⟨tb, 0, none⟩), .bool false, .bool false, .bool false, .int .i64 1, .int .i64 0] 61))) := (HB1.out.trans (below_less b2 HB1.out.size)).alloc (Nat.le_trans HB1.out.size b2.size) _
 have HX3 : Hid (Bk (w2.alloc (.cells #[.pointer (some ⟨tb, 0, none⟩), .bool false, .bool false, .bool false, .int .i64 1, .int .i64 0] 61)) w.heap.size #[.int .i64 6, .int .i64 0, .int .i64 0, .int .i64 0, .bool false, .string ⟨#[]⟩, .slice none 0 0, .slice (some ⟨kb, 0, none⟩) 1 1] 25) := (HX1.out.on b2).past _
 have HR3 : Hid (Bk (w2.alloc (.cells #[.pointer (some ⟨tb, 0, none⟩), .bool false, .bool false, .bool false, .int .i64 1, .int .i64 0] 61)) (w.heap.size + 1 + 1) #[.int .i64 0, .int .i64 0, .int .i64 0, .int .i64 0, .bool false, .string ⟨#[]⟩, .slice none 0 0, .slice none 0 0] 25) := (HR1.out.on b2).past _
 have hw2 : w.heap.size + 1 + 1 + 1 ≤ w2.heap.size := Nat.le_trans hw1 b2.size
 have CU := HU.out (w2.alloc (.cells #[.pointer (some ⟨tb, 0, none⟩), .bool false, .bool false, .bool false, .int .i64 1, .int .i64 0] 61)) w2.heap.size ⟨HT.out.1, HT.out.2, HB3.out, by omega, Bk.new _ _ _⟩ HB3.out
 obtain ⟨o0, o1, o2, o3⟩ := cells4 (HO1.out.on b2)
 obtain ⟨u0, u1, u2, u3, u4, u5, u6, u7⟩ := cells8 (HX1.out.on b2)
 obtain ⟨x0, x1, x2, x3, x4, x5, x6, x7⟩ := cells8 HX3.out
 clear b2 HU HB1 HX1 HO1 HR1 hw1 HT
 go_wp2_with fail
 refine CU.mono ?_
 rintro e w4 ⟨gg, cap, a, cp, rfl, c4, k4, h6, hg⟩
 clear CU x0 x1 x2 x3 x4 x5 x6 x7 u0 u1 u2 u3 u4 u5 u6 u7 o0 o1 o2 o3
 have HF : Hid (Below w.heap.size w w4) := HB3.out.trans (k4.below HB3.out.size (fun x e => by cases e; omega))
 have HR4 : Hid (Bk w4 (w.heap.size + 1 + 1) #[.int .i64 0, .int .i64 0, .int .i64 0, .int .i64 0, .bool false, .string ⟨#[]⟩, .slice none 0 0, .slice none 0 0] 25) := HR3.out.kp k4 (fun e => by have := Option.some.inj e; omega)
 have H6 : Hid (w4.cell? ⟨gg, 6, none⟩ = some (.slice a 2 cp)) := h6
 have hgg : w.heap.size + 1 + 1 ≠ gg := by simp at hg; omega
 have m6 := (c4.blk.past (.cells #[.int .i64 6, .int .i64 0, .int .i64 0, .int .i64 0, .bool false, .string ⟨#[]⟩, .slice none 0 0, .slice (some ⟨gg, 0, none⟩) 1 cap] 25)).cell 5 (u := .int .i64 0) rfl
 clear c4 k4 h6 hg HB3 HX3 HR3
 obtain ⟨⟨s0, s1, s2, s3, s4, s5, s6, s7⟩, t0, t1, t2, t3, t4, t5, t6, t7⟩ := open8 (HR4.out.past (.cells #[.int .i64 6, .int .i64 0, .int .i64 0, .int .i64 0, .bool false, .string ⟨#[]⟩, .slice none 0 0, .slice (some ⟨gg, 0, none⟩) 1 cap] 25))
 go_wp2
 refine bodyPost_ret (lin.results_row_tmp Tryz.results9 _ _ (w.heap.size + 1 + 1) _ #[.int .i64 6, .int .i64 0, .int .i64 0, .int .i64 0, .bool false, .string ⟨#[]⟩, .slice none 0 0, .slice (some ⟨gg, 0, none⟩) 1 cap] _ _ rfl (bk_set8 (HR4.out.past _) _ _ _ _ _ _ _ _) Tryz.underlying25 rfl infoNode) rfl ?_
 refine ⟨gg, cap, a, cp, rfl, ?_, ?_⟩
 ·exact (kp_set8 (E := none) (k := w.heap.size + 1 + 1) ((Kp.of_below HF.out).alloc _) (by omega) _ _ _ _ _ _ _ _).none
 ·exact cell_off8 (fun e => hgg e.symm) (cell_past _ H6.out)
set_option maxHeartbeats 4000000 in
set_option maxRecDepth 1000000 in
theorem awake_any (w : World) (E : prp.Env w) (P : PE w) : Calls Tryz.prog 6 #[] w fun e w' => e = .returned (.bool true) ∧ Below w.heap.size w w' := by
 have C := prp.load_any w E
 have HE : Hid (prp.Env w ∧ PE w) := ⟨E, P⟩
 clear E P
 go_enter Tryz.func6, Tryz.ntmps6
 go_wp2_with fail
 refine C.mono ?_
 rintro e w1 ⟨t, rfl, ht, b1⟩
 clear C
 have B1 : Below w1.heap.size w1 (w1.alloc (.cells #[.int .i64 1, .int .i64 0, .int .i64 97, .int .i64 0, .bool false, .string ⟨#[]⟩, .slice none 0 0, .slice none 0 0] 25)) := (Below.refl _ w1).alloc (Nat.le_refl _) _
 have HB1 : Hid (Below w.heap.size w (w1.alloc (.cells #[.int .i64 1, .int .i64 0, .int .i64 97, .int .i64 0, .bool false, .string ⟨#[]⟩, .slice none 0 0, .slice none 0 0] 25))) := b1.trans (B1.mono b1.size)
 have C := lower_a (w1.alloc (.cells #[.int .i64 1, .int .i64 0, .int .i64 97, .int .i64 0, .bool false, .string ⟨#[]⟩, .slice none 0 0, .slice none 0 0] 25)) t w1.heap.size (ht.below B1) (HE.out.1.below HB1.out) (HE.out.2.below HB1.out) (Bk.new _ _ _)
 clear B1 b1 ht
 go_wp2_with fail
 refine C.mono ?_
 rintro e w2 ⟨gg, cap, a, cp, rfl, b2, h6⟩
 clear C
 have HB2 : Hid (Below w.heap.size w w2) := HB1.out.trans (b2.mono HB1.out.size)
 have HF : Hid (Below w.heap.size w (w2.alloc (.cells #[.int .i64 6, .int .i64 0, .int .i64 0, .int .i64 0, .bool false, .string ⟨#[]⟩, .slice none 0 0, .slice (some ⟨gg, 0, none⟩) 1 cap] 25))) := HB2.out.alloc HB2.out.size _
 have h7 := cell_past (.cells #[.int .i64 6, .int .i64 0, .int .i64 0, .int .i64 0, .bool false, .string ⟨#[]⟩, .slice none 0 0, .slice (some ⟨gg, 0, none⟩) 1 cap] 25) h6
 clear HB1 b2 HB2
 go_wp2
 go_ret
 exact ⟨rfl, HF.out⟩
set_option maxHeartbeats 4000000 in
set_option maxRecDepth 1000000 in
theorem lower_none (v : Value) (k m a b : Int) (g : Bool) (n : ByteArray) (ta : Option Addr) (tl tc : Nat) (ka : Option Addr) (kl kc : Nat) (c d mu : Bool) (fo : Int) (w : World) (h : prp.Unmade w v) :
  Calls Tryz.prog 9 #[v, .agg #[.int .i64 k, .int .i64 m, .int .i64 a, .int .i64 b, .bool g, .string n, .slice ta tl tc, .slice ka kl kc], .agg #[.bool c, .bool d, .bool mu, .int .i64 fo]] w fun e w' => e = .returned (.tuple #[.agg #[.int .i64 0, .int .i64 0, .int .i64 0, .int .i64 0, .bool false, .string ⟨#[]⟩, .slice none 0 0, .slice none 0 0], .int .i64 2]) ∧ Below w.heap.size w w' := by
 have HB : Hid (Below w.heap.size w (((w.alloc (.cells #[.int .i64 k, .int .i64 m, .int .i64 a, .int .i64 b, .bool g, .string n, .slice ta tl tc, .slice ka kl kc] 25)).alloc (.cells #[.bool c, .bool d, .bool mu, .int .i64 fo] 30)).alloc (.cells #[.int .i64 0, .int .i64 0, .int .i64 0, .int .i64 0, .bool false, .string ⟨#[]⟩, .slice none 0 0, .slice none 0 0] 25))) := ((below2 _ _ _).trans (((Below.refl _ _).alloc (Nat.le_refl _) _).mono (by simp; omega)))
 have HR : Hid (Bk (((w.alloc (.cells #[.int .i64 k, .int .i64 m, .int .i64 a, .int .i64 b, .bool g, .string n, .slice ta tl tc, .slice ka kl kc] 25)).alloc (.cells #[.bool c, .bool d, .bool mu, .int .i64 fo] 30)).alloc (.cells #[.int .i64 0, .int .i64 0, .int .i64 0, .int .i64 0, .bool false, .string ⟨#[]⟩, .slice none 0 0, .slice none 0 0] 25)) (w.heap.size + 1 + 1) #[.int .i64 0, .int .i64 0, .int .i64 0, .int .i64 0, .bool false, .string ⟨#[]⟩, .slice none 0 0, .slice none 0 0] 25) := by
  have := Bk.new ((w.alloc (.cells #[.int .i64 k, .int .i64 m, .int .i64 a, .int .i64 b, .bool g, .string n, .slice ta tl tc, .slice ka kl kc] 25)).alloc (.cells #[.bool c, .bool d, .bool mu, .int .i64 fo] 30)) #[.int .i64 0, .int .i64 0, .int .i64 0, .int .i64 0, .bool false, .string ⟨#[]⟩, .slice none 0 0, .slice none 0 0] 25
  simpa [Hid] using this
 have hz : (((w.alloc (.cells #[.int .i64 k, .int .i64 m, .int .i64 a, .int .i64 b, .bool g, .string n, .slice ta tl tc, .slice ka kl kc] 25)).alloc (.cells #[.bool c, .bool d, .bool mu, .int .i64 fo] 30)).alloc (.cells #[.int .i64 0, .int .i64 0, .int .i64 0, .int .i64 0, .bool false, .string ⟨#[]⟩, .slice none 0 0, .slice none 0 0] 25)).heap.size = w.heap.size + 1 + 1 + 1 := by simp
 have C := Set_none v 2 0 0 0 false ⟨#[]⟩ none 0 0 none 0 0 c d mu fo _ (h.below HB.out)
 clear h
 go_enter Tryz.func9, Tryz.ntmps9
 go_wp2_with fail
 refine C.mono ?_
 rintro e w1 ⟨rfl, b1⟩
 clear C
 have HF : Hid (Below w.heap.size w w1) := HB.out.trans (below_less b1 (by omega))
 have HR1 : Hid (Bk w1 (w.heap.size + 1 + 1) #[.int .i64 0, .int .i64 0, .int .i64 0, .int .i64 0, .bool false, .string ⟨#[]⟩, .slice none 0 0, .slice none 0 0] 25) := HR.out.on b1
 clear b1 HB HR hz
 obtain ⟨⟨x0, x1, x2, x3, x4, x5, x6, x7⟩, y0, y1, y2, y3, y4, y5, y6, y7⟩ := open8 HR1.out
 go_wp2
 refine bodyPost_ret (lin.results_row_tmp Tryz.results9 _ _ (w.heap.size + 1 + 1) _ #[.int .i64 0, .int .i64 0, .int .i64 0, .int .i64 0, .bool false, .string ⟨#[]⟩, .slice none 0 0, .slice none 0 0] _ _ rfl (bk_set8 HR1.out _ _ _ _ _ _ _ _) Tryz.underlying25 rfl infoNode) rfl ?_
 exact ⟨rfl, (kp_set8 (E := none) (k := w.heap.size + 1 + 1) (Kp.of_below HF.out) (by omega) _ _ _ _ _ _ _ _).none⟩
def zT : Nd := .mk 0 0 0 0 false ⟨#[]⟩ [] []
theorem same_z (W : World) : Calls Tryz.prog 10 #[.agg #[.int .i64 0, .int .i64 0, .int .i64 0, .int .i64 0, .bool false, .string ⟨#[]⟩, .slice none 0 0, .slice none 0 0], .agg #[.int .i64 0, .int .i64 0, .int .i64 0, .int .i64 0, .bool false, .string ⟨#[]⟩, .slice none 0 0, .slice none 0 0]] W fun e w' => e = .returned (.bool true) ∧ Below W.heap.size W w' := by
 have h : NV W.heap.size W zT (.agg #[.int .i64 0, .int .i64 0, .int .i64 0, .int .i64 0, .bool false, .string ⟨#[]⟩, .slice none 0 0, .slice none 0 0]) := nv_leaf W.heap.size W 0 0 0 0 false ⟨#[]⟩ (i64s (by decide) (by decide)) (i64s (by decide) (by decide)) (i64s (by decide) (by decide)) (i64s (by decide) (by decide)) (by decide)
 exact tre.same_any 1 zT _ _ W (by decide) h h
end Go.Proofs.YtinlolmjafjhnaaGreatDoor.low
end

section
/- Whether a tree is one of sets: lower.Plain at any node. -/
set_option linter.unusedVariables false
set_option linter.unusedSimpArgs false
namespace Go.Proofs.YtinlolmjafjhnaaGreatDoor.low
open Go.RowKit nod
open Go.Proofs.YtinlolmjafjhnaaGreatDoor.rng (R RV canB nxt ret_int ret_bool below_drewN info_parts own_below' get_lt take_get)

def wi (x lo hi : Int) : Bool := decide (lo ≤ x) && decide (x ≤ hi)
def repP (m a b : Int) : Bool := wi m 0 2 && wi a 0 100 && ((b == -1) || wi b a 100)
/-- May the node stand in a tree of sets, its kids apart. -/
def standP (k m a b : Int) (s : List R) (nk : Nat) : Bool :=
 if k = 15 then canB 0 s else if k = 6 ∨ k = 14 then true else if k = 7 then decide (0 < nk) else if k = 8 then repP m a b && decide (nk = 1) else if k = 9 then wi a 0 20 && decide (nk = 1) else if k = 10 then wi m 0 3 && decide (nk = 1) else if k = 11 then decide (nk = 1) else if k = 12 then wi m 1 10 else if k = 13 then wi a 1 20 else false
def kidsP (k : Int) : Bool := decide (k = 6 ∨ k = 7 ∨ k = 8 ∨ k = 9 ∨ k = 10 ∨ k = 11)
mutual
/-- Is the node, so deep, a tree of sets. -/
def plN : Nd → Int → Bool
 | .mk k m a b g n s ks, d => decide (d ≤ 400) && standP k m a b s ks.length && (!kidsP k || plL ks (d + 1))
def plL : List Nd → Int → Bool
 | [], _ => true
 | t :: ts, d => plN t d && plL ts d
end
theorem plL_all : ∀ (ks : List Nd) (d : Int), plL ks d = ks.all (fun t => plN t d)
 | [], _ => by rw [plL]; rfl
 | t :: ts, d => by rw [plL, plL_all ts d]; rfl

theorem within_any (x lo hi : Int) (w : World) : Calls Tryz.prog 43 #[.int .i64 x, .int .i64 lo, .int .i64 hi] w fun e w' => e = .returned (.bool (wi x lo hi)) ∧ w' = w := by
 unfold wi
 by_cases h1 : lo ≤ x
 ·by_cases h2 : x ≤ hi
  ·go_enter Tryz.func43, Tryz.ntmps43
   go_wp2
   go_ret
   exact ⟨by simp [h1, h2], rfl⟩
  ·go_enter Tryz.func43, Tryz.ntmps43
   go_wp2
   go_ret
   exact ⟨by simp [h1, h2], rfl⟩
 ·go_enter Tryz.func43, Tryz.ntmps43
  go_wp2
  go_ret
  exact ⟨by rw [show decide (lo ≤ x) = false from decide_eq_false (by omega)]; rfl, rfl⟩
theorem has_any (k : Int) (w : World) : Calls Tryz.prog 16 #[.int .i64 k] w fun e w' => e = .returned (.bool (kidsP k)) ∧ w' = w := by
 by_cases c6 : k = 6
 ·subst c6; go_enter Tryz.func16, Tryz.ntmps16; go_wp2; go_ret; exact ⟨rfl, rfl⟩
 by_cases c7 : k = 7
 ·subst c7; go_enter Tryz.func16, Tryz.ntmps16; go_wp2; go_ret; exact ⟨rfl, rfl⟩
 by_cases c8 : k = 8
 ·subst c8; go_enter Tryz.func16, Tryz.ntmps16; go_wp2; go_ret; exact ⟨rfl, rfl⟩
 by_cases c9 : k = 9
 ·subst c9; go_enter Tryz.func16, Tryz.ntmps16; go_wp2; go_ret; exact ⟨rfl, rfl⟩
 by_cases c10 : k = 10
 ·subst c10; go_enter Tryz.func16, Tryz.ntmps16; go_wp2; go_ret; exact ⟨rfl, rfl⟩
 by_cases c11 : k = 11
 ·subst c11; go_enter Tryz.func16, Tryz.ntmps16; go_wp2; go_ret; exact ⟨rfl, rfl⟩
 have HE : Hid (kidsP k = false) := by unfold Hid kidsP; simp; omega
 have f6 : (k == 6) = false := by simpa using c6
 have f7 : (k == 7) = false := by simpa using c7
 have f8 : (k == 8) = false := by simpa using c8
 have f9 : (k == 9) = false := by simpa using c9
 have f10 : (k == 10) = false := by simpa using c10
 have f11 : (k == 11) = false := by simpa using c11
 clear c6 c7 c8 c9 c10 c11
 go_enter Tryz.func16, Tryz.ntmps16
 go_wp2
 go_ret
 exact ⟨by rw [HE.out]; rfl, rfl⟩
set_option maxHeartbeats 4000000 in
set_option maxRecDepth 10000 in
theorem repeat_any (k m a b : Int) (g : Bool) (n : ByteArray) (sv kv : Value) (w : World) : Calls Tryz.prog 42 #[.agg #[.int .i64 k, .int .i64 m, .int .i64 a, .int .i64 b, .bool g, .string n, sv, kv]] w fun e w' => e = .returned (.bool (repP m a b)) ∧ Below w.heap.size w w' := by
 have HB : Hid (Below w.heap.size w (w.alloc (.cells #[.int .i64 k, .int .i64 m, .int .i64 a, .int .i64 b, .bool g, .string n, sv, kv] 25))) := (Below.refl _ w).alloc (Nat.le_refl _) _
 have C1 := fun W => within_any m 0 2 W
 have C2 := fun W => within_any a 0 100 W
 have C3 := fun W => within_any b a 100 W
 unfold repP
 generalize wi m 0 2 = x1 at *
 generalize wi a 0 100 = x2 at *
 generalize wi b a 100 = x3 at *
 cases x1 with
 | false =>
  clear C2 C3
  go_enter Tryz.func42, Tryz.ntmps42
  go_wp2_with (go_at_call 43; refine (C1 _).mono ?_; rintro e w1 ⟨rfl, rfl⟩; clear C1)
  go_ret
  exact ⟨rfl, HB.out⟩
 | true =>
  cases x2 with
  | false =>
   clear C3
   go_enter Tryz.func42, Tryz.ntmps42
   go_wp2_with (go_at_call 43; first | (refine (C1 _).mono ?_; rintro e w1 ⟨rfl, rfl⟩; clear C1) | (refine (C2 _).mono ?_; rintro e w1 ⟨rfl, rfl⟩; clear C2))
   go_ret
   exact ⟨rfl, HB.out⟩
  | true =>
   by_cases hb : b = -1
   ·subst hb
    clear C3
    go_enter Tryz.func42, Tryz.ntmps42
    go_wp2_with (go_at_call 43; first | (refine (C1 _).mono ?_; rintro e w1 ⟨rfl, rfl⟩; clear C1) | (refine (C2 _).mono ?_; rintro e w1 ⟨rfl, rfl⟩; clear C2))
    go_ret
    exact ⟨rfl, HB.out⟩
   ·have f : (b == -1) = false := by simpa using hb
    rw [f]
    clear hb
    go_enter Tryz.func42, Tryz.ntmps42
    go_wp2_with (go_at_call 43; first | (refine (C1 _).mono ?_; rintro e w1 ⟨rfl, rfl⟩; clear C1) | (refine (C2 _).mono ?_; rintro e w1 ⟨rfl, rfl⟩; clear C2) | (refine (C3 _).mono ?_; rintro e w1 ⟨rfl, rfl⟩; clear C3))
    go_ret
    exact ⟨rfl, HB.out⟩
theorem can_take {l : List R} {k : Nat} {p : R} (h : l[k]? = some p) : (canB 0 (l.take (k + 1)) = true ↔ canB 0 (l.take k) = true ∧ nxt 0 (l.take k) ≤ p.1 ∧ p.1 ≤ p.2 ∧ p.2 ≤ 1114111) ∧ nxt 0 (l.take (k + 1)) = p.2 + 2 := by
 have aux : ∀ (q : List R) (lo : Int), (canB lo (q ++ [p]) = true ↔ canB lo q = true ∧ nxt lo q ≤ p.1 ∧ p.1 ≤ p.2 ∧ p.2 ≤ 1114111) ∧ nxt lo (q ++ [p]) = p.2 + 2 := by
  intro q
  induction q with
  | nil => intro lo; exact ⟨by simp [canB, nxt], rfl⟩
  | cons x q ih => intro lo; obtain ⟨i1, i2⟩ := ih (x.2 + 2); exact ⟨by simp [canB, nxt, i1, and_assoc], by simp only [List.cons_append, nxt, i2]⟩
 rw [takeX h]
 exact aux _ 0
theorem nxt_nonneg : ∀ (q : List R), canB 0 q = true → (0 : Int) ≤ nxt 0 q := by
 have aux : ∀ (q : List R) (lo : Int), 0 ≤ lo → canB lo q = true → 0 ≤ nxt lo q := by
  intro q
  induction q with
  | nil => intro lo h _; exact h
  | cons x q ih =>
   intro lo h hc
   simp only [canB, Bool.and_eq_true, decide_eq_true_eq] at hc
   exact ih (x.2 + 2) (by omega) hc.2
 exact fun q h => aux q 0 (by omega) h
theorem can_cut {l : List R} (k : Nat) (h : canB 0 (l.take k) = false) : canB 0 l = false := by
 have aux : ∀ (q r : List R) (lo : Int), canB lo q = false → canB lo (q ++ r) = false := by
  intro q
  induction q with
  | nil => intro r lo h; simp [canB] at h
  | cons x q ih =>
   intro r lo h
   simp only [List.cons_append, canB, Bool.and_eq_false_iff] at h ⊢
   exact h.imp id (ih r _)
 have := aux (l.take k) (l.drop k) 0 h
 rwa [List.take_append_drop] at this
set_option maxHeartbeats 4000000 in
set_option maxRecDepth 10000 in
theorem isset_any (ao : Option Addr) (cap : Nat) (l : List R) (w : World) (hn : l.length ≤ 9223372036854775807) (hv : RV w ao l) :
  Calls Tryz.prog 41 #[.slice ao l.length cap] w fun e w' => e = .returned (.bool (canB 0 l)) ∧ Below w.heap.size w w' := by
 have HV : Hid (RV w ao l) := hv
 obtain ⟨n, hl⟩ : ∃ n, l.length = n := ⟨_, rfl⟩
 rw [hl] at hn ⊢
 have HL : Hid (l.length = n) := hl
 clear hv hl
 go_enter Tryz.func41, Tryz.ntmps41
 go_wp2
 go_loopw [3, 8] (fun f i wr => ∃ (k : Nat) (fr : Int), k ≤ n ∧ i = .int .i64 k ∧ f = .int .i64 fr ∧ Hid (fr = nxt 0 (l.take k)) ∧ Hid (canB 0 (l.take k) = true) ∧ Below w.heap.size w wr) (fun _ i _ => n - (intOf i).toNat)
 case atStart => exact ⟨0, 0, Nat.zero_le _, rfl, rfl, rfl, rfl, Below.refl _ _⟩
 case round =>
  obtain ⟨k, fr, hk, rfl, rfl, HF, HC, hbel⟩ := hrel
  by_cases hlt : k < n
  ·obtain ⟨x, y, hp⟩ := get_lt HL.out hlt
   obtain ⟨bb, off, rfl, hc⟩ := (HV.out.below hbel).some (by have := HL.out; omega)
   obtain ⟨c1, c2⟩ := hc k (x, y) hp
   simp only at c1 c2
   have hbs := hbel.size
   have HB2 : Hid (Below w.heap.size w (wr.alloc (.cells #[.int .i64 x, .int .i64 y] 66))) := hbel.alloc hbs _
   obtain ⟨t1, t2⟩ := can_take hp
   by_cases hok : fr ≤ x ∧ x ≤ y ∧ y ≤ 1114111
   ·have HT1 : Hid (canB 0 (l.take (k + 1)) = true) := by
     exact t1.2 ⟨HC.out, by rw [← HF.out]; exact hok⟩
    have HT2 : Hid (nxt 0 (l.take (k + 1)) = y + 2) := t2
    obtain ⟨o1, o2, o3⟩ := hok
    have q1 : ¬ x < fr := by omega
    have q2 : ¬ x > y := by omega
    have q3 : ¬ y > 1114111 := by omega
    have q4 : -9223372036854775808 ≤ y + 2 ∧ y + 2 ≤ 9223372036854775807 := by
     have : 0 ≤ x ∨ x < 0 := by omega
     constructor
     ·have h0 : (0 : Int) ≤ nxt 0 (l.take k) := nxt_nonneg _ HC.out
      rw [← HF.out] at h0; omega
     ·omega
    clear hc hp t1 t2 HC HF
    go_wp2
    go_roundw
    case rel => exact ⟨k + 1, y + 2, by omega, by go_num, by go_num, by unfold Hid; exact HT2.out.symm, HT1, HB2.out⟩
    case measure => simp [intOf]; omega
   ·have HE : Hid (canB 0 l = false) := can_cut (k + 1) (by rw [Bool.eq_false_iff]; intro h; exact hok (by rw [HF.out]; exact (t1.1 h).2))
    clear hc hp t1 t2 HC HF
    by_cases q1 : x < fr
    ·clear hok
     go_wp2
     go_ret
     exact ⟨ret_bool HE.out.symm, HB2.out⟩
    by_cases q2 : x > y
    ·clear hok
     go_wp2
     go_ret
     exact ⟨ret_bool HE.out.symm, HB2.out⟩
    ·have q3 : y > 1114111 := by omega
     clear hok
     go_wp2
     go_ret
     exact ⟨ret_bool HE.out.symm, HB2.out⟩
  ·have e1 : l.take k = l := List.take_of_length_le (by have := HL.out; omega)
   have HE : Hid (canB 0 l = true) := by have := HC.out; rw [e1] at this; exact this
   clear HC HF e1
   go_wp2
   go_ret
   exact ⟨ret_bool HE.out.symm, hbel⟩
set_option maxHeartbeats 8000000 in
set_option maxRecDepth 10000 in
theorem stand_any (k m a b : Int) (g : Bool) (n : ByteArray) (sa : Option Addr) (st : List R) (sc : Nat) (ao : Option Addr) (nk cap : Nat) (w : World) (hs : RV w sa st) (hsn : st.length ≤ 9223372036854775807) (hnk : nk ≤ 9223372036854775807) :
  Calls Tryz.prog 15 #[.agg #[.int .i64 k, .int .i64 m, .int .i64 a, .int .i64 b, .bool g, .string n, .slice sa st.length sc, .slice ao nk cap]] w fun e w' => e = .returned (.bool (standP k m a b st nk)) ∧ Below w.heap.size w w' := by
 have B1 : Below w.heap.size w (w.alloc (.cells #[.int .i64 k, .int .i64 m, .int .i64 a, .int .i64 b, .bool g, .string n, .slice sa st.length sc, .slice ao nk cap] 25)) := (Below.refl _ w).alloc (Nat.le_refl _) _
 have HB : Hid (Below w.heap.size w (w.alloc (.cells #[.int .i64 k, .int .i64 m, .int .i64 a, .int .i64 b, .bool g, .string n, .slice sa st.length sc, .slice ao nk cap] 25))) := B1
 have CI := isset_any sa sc st (w.alloc (.cells #[.int .i64 k, .int .i64 m, .int .i64 a, .int .i64 b, .bool g, .string n, .slice sa st.length sc, .slice ao nk cap] 25)) hsn (hs.below B1)
 have CR := repeat_any k m a b g n (.slice sa st.length sc) (.slice ao nk cap) (w.alloc (.cells #[.int .i64 k, .int .i64 m, .int .i64 a, .int .i64 b, .bool g, .string n, .slice sa st.length sc, .slice ao nk cap] 25))
 clear hs B1
 unfold standP
 generalize canB 0 st = x15 at *
 generalize st.length = sl at *
 by_cases c15 : k = 15
 ·subst c15
  rw [if_pos rfl]
  go_enter Tryz.func15, Tryz.ntmps15
  go_wp2_with (go_at_call 41; refine CI.mono ?_; rintro e w1 ⟨rfl, d⟩; have HD : Hid (Below w.heap.size w w1) := HB.out.trans (below_less d (by simp)); clear d)
  go_ret
  exact ⟨rfl, HD.out⟩
 by_cases c6 : k = 6
 ·subst c6
  go_enter Tryz.func15, Tryz.ntmps15
  go_wp2
  go_ret
  exact ⟨rfl, HB.out⟩
 by_cases c14 : k = 14
 ·subst c14
  go_enter Tryz.func15, Tryz.ntmps15
  go_wp2
  go_ret
  exact ⟨rfl, HB.out⟩
 by_cases c7 : k = 7
 ·subst c7
  by_cases z : 0 < nk
  ·have z1 : (nk : Int) > 0 := by omega
   go_enter Tryz.func15, Tryz.ntmps15
   go_wp2
   go_ret
   exact ⟨by simp [z], HB.out⟩
  ·have z1 : ¬ (nk : Int) > 0 := by omega
   go_enter Tryz.func15, Tryz.ntmps15
   go_wp2
   go_ret
   exact ⟨by simp [z], HB.out⟩
 by_cases c8 : k = 8
 ·subst c8
  by_cases z : nk = 1
  ·subst z
   generalize repP m a b = x at *
   cases x <;> (
    go_enter Tryz.func15, Tryz.ntmps15
    go_wp2_with (go_at_call 42; refine CR.mono ?_; rintro e w1 ⟨rfl, d⟩; have HD : Hid (Below w.heap.size w w1) := HB.out.trans (below_less d (by simp)); have x7 := ((Bk.new w #[.int .i64 8, .int .i64 m, .int .i64 a, .int .i64 b, .bool g, .string n, .slice sa sl sc, .slice ao 1 cap] 25).on d).cell 7 (u := .slice ao 1 cap) rfl; clear d)
    go_ret
    exact ⟨rfl, HD.out⟩)
  ·have z1 : ((nk : Int) == 1) = false := by simp; omega
   rw [decide_eq_false z]
   clear z
   generalize repP m a b = x at *
   cases x <;> (
    go_enter Tryz.func15, Tryz.ntmps15
    go_wp2_with (go_at_call 42; refine CR.mono ?_; rintro e w1 ⟨rfl, d⟩; have HD : Hid (Below w.heap.size w w1) := HB.out.trans (below_less d (by simp)); have x7 := ((Bk.new w #[.int .i64 8, .int .i64 m, .int .i64 a, .int .i64 b, .bool g, .string n, .slice sa sl sc, .slice ao nk cap] 25).on d).cell 7 (u := .slice ao nk cap) rfl; clear d)
    go_ret
    exact ⟨rfl, HD.out⟩)
 by_cases c9 : k = 9
 ·subst c9
  by_cases z : nk = 1
  ·subst z
   have C1 := fun W => within_any a 0 20 W
   generalize wi a 0 20 = x at *
   cases x <;> (
    go_enter Tryz.func15, Tryz.ntmps15
    go_wp2_with (go_at_call 43; refine (C1 _).mono ?_; rintro e w1 ⟨rfl, rfl⟩)
    go_ret
    exact ⟨rfl, HB.out⟩)
  ·have z1 : ((nk : Int) == 1) = false := by simp; omega
   rw [decide_eq_false z]
   clear z
   have C1 := fun W => within_any a 0 20 W
   generalize wi a 0 20 = x at *
   cases x <;> (
    go_enter Tryz.func15, Tryz.ntmps15
    go_wp2_with (go_at_call 43; refine (C1 _).mono ?_; rintro e w1 ⟨rfl, rfl⟩)
    go_ret
    exact ⟨rfl, HB.out⟩)
 by_cases c10 : k = 10
 ·subst c10
  by_cases z : nk = 1
  ·subst z
   have C1 := fun W => within_any m 0 3 W
   generalize wi m 0 3 = x at *
   cases x <;> (
    go_enter Tryz.func15, Tryz.ntmps15
    go_wp2_with (go_at_call 43; refine (C1 _).mono ?_; rintro e w1 ⟨rfl, rfl⟩)
    go_ret
    exact ⟨rfl, HB.out⟩)
  ·have z1 : ((nk : Int) == 1) = false := by simp; omega
   rw [decide_eq_false z]
   clear z
   have C1 := fun W => within_any m 0 3 W
   generalize wi m 0 3 = x at *
   cases x <;> (
    go_enter Tryz.func15, Tryz.ntmps15
    go_wp2_with (go_at_call 43; refine (C1 _).mono ?_; rintro e w1 ⟨rfl, rfl⟩)
    go_ret
    exact ⟨rfl, HB.out⟩)
 by_cases c11 : k = 11
 ·subst c11
  by_cases z : nk = 1
  ·subst z
   go_enter Tryz.func15, Tryz.ntmps15
   go_wp2
   go_ret
   exact ⟨rfl, HB.out⟩
  ·have z1 : ((nk : Int) == 1) = false := by simp; omega
   rw [decide_eq_false z]
   clear z
   go_enter Tryz.func15, Tryz.ntmps15
   go_wp2
   go_ret
   exact ⟨rfl, HB.out⟩
 by_cases c12 : k = 12
 ·subst c12
  have C1 := fun W => within_any m 1 10 W
  go_enter Tryz.func15, Tryz.ntmps15
  go_wp2_with (go_at_call 43; refine (C1 _).mono ?_; rintro e w1 ⟨rfl, rfl⟩)
  go_ret
  exact ⟨rfl, HB.out⟩
 by_cases c13 : k = 13
 ·subst c13
  have C1 := fun W => within_any a 1 20 W
  go_enter Tryz.func15, Tryz.ntmps15
  go_wp2_with (go_at_call 43; refine (C1 _).mono ?_; rintro e w1 ⟨rfl, rfl⟩)
  go_ret
  exact ⟨rfl, HB.out⟩
 rw [if_neg c15, if_neg (by omega), if_neg c7, if_neg c8, if_neg c9, if_neg c10, if_neg c11, if_neg c12, if_neg c13]
 have f15 : (k == 15) = false := by simpa using c15
 have f6 : (k == 6) = false := by simpa using c6
 have f14 : (k == 14) = false := by simpa using c14
 have f7 : (k == 7) = false := by simpa using c7
 have f8 : (k == 8) = false := by simpa using c8
 have f9 : (k == 9) = false := by simpa using c9
 have f10 : (k == 10) = false := by simpa using c10
 have f11 : (k == 11) = false := by simpa using c11
 have f12 : (k == 12) = false := by simpa using c12
 have f13 : (k == 13) = false := by simpa using c13
 clear c15 c6 c14 c7 c8 c9 c10 c11 c12 c13
 go_enter Tryz.func15, Tryz.ntmps15
 go_wp2
 go_ret
 exact ⟨rfl, HB.out⟩
end Go.Proofs.YtinlolmjafjhnaaGreatDoor.low
end
