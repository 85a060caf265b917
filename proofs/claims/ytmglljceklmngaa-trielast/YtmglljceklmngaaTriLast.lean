/- The walk of TrieLast. -/
import Derived.Test.YtmglljceklmngaaTriCalls
import Derived.Test.YtmglljceklmngaaTriBuildB
import Derived.Test.YtmglljceklmngaaTriGetB
set_option linter.unusedVariables false
set_option linter.unusedSimpArgs false
namespace Go.Proofs.Ytmglljceklmngaa.tri
open Go.RowKit
open Go.Proofs.Ytmglljceklmngaa.rng (ret_int ret_bool below_drewN info_parts own_below')

def VB (i : Int) : Bool := if i = 0 then false else true
theorem last_over {l : List E} {L H r : Int} (hL0 : 0 ≤ L) (hH1 : H ≤ 1114111) (h1 : L ≤ r) (h2 : r ≤ H) : last (use 2 (l ++ [(L, H, 1)])) r = some 1 := by
  have hc : clip (L, H, 1) = (L, H, 1) := by
    simp only [clip]; rw [show max L 0 = L by omega, show min H 1114111 = H by omega]
  have hg : good 2 (L, H, 1) = true := by simp [good]; omega
  rw [use_snoc, hc, if_pos hg, last_append, last, last, if_pos ⟨h1, h2⟩]; rfl

set_option maxRecDepth 10000 in
set_option maxHeartbeats 8000000 in
theorem law_last (v : Value) (l0 : List E) (lo hi r : Int) (w : World) (ha : ArgE w v l0) :
    Calls Try.prog 6 #[v, .int .i64 lo, .int .i64 hi, .int .i64 r] w fun e w' => e = .returned (.bool true) ∧ Below w.heap.size w w' := by
  obtain ⟨i0, hi0, hz0, hz1, hz2⟩ := info_parts infoEntry
  have C := few_s v l0 w ha
  have hn := take12 l0
  generalize l0.take 12 = l at *
  clear ha
  obtain ⟨a, hae⟩ : ∃ a : Int, (if lo < 0 then (0 : Int) else lo) = a := ⟨_, rfl⟩
  obtain ⟨b, hbe⟩ : ∃ b : Int, (if hi < 0 then (0 : Int) else hi) = b := ⟨_, rfl⟩
  obtain ⟨L, hLe⟩ : ∃ L : Int, (if 1114111 < a then (1114111 : Int) else a) = L := ⟨_, rfl⟩
  obtain ⟨H, hHe⟩ : ∃ H : Int, (if 1114111 < b then (1114111 : Int) else b) = H := ⟨_, rfl⟩
  have hL0 : 0 ≤ L := by rw [← hLe, ← hae]; split <;> split <;> omega
  have hH1 : H ≤ 1114111 := by rw [← hHe]; split <;> omega
  have KEY : Hid (∀ s : List E, (∀ x, at_ s x = last (use 2 (l ++ [(L, H, 1)])) x) → L ≤ r → r ≤ H → at_ s r = some 1) := fun s h h1 h2 => by
    rw [h, last_over hL0 hH1 h1 h2]
  clear hL0 hH1
  go_enter Try.func6, Try.ntmps6
  go_wp2_with fail
  refine C.mono ?_
  rintro e wz ⟨ao, cap, rfl, hev, h0, rfl⟩
  have D := clone_e ao cap l wz hev h0 (by omega)
  clear C hev h0
  generalize hln : l.length = ln at *
  have HLN : Hid (l.length = ln) := hln
  clear hln
  go_wp2_with fail
  refine D.mono ?_
  rintro e w1 ⟨vc, rfl, ho, b1⟩
  have hs1 := b1.size
  have ho' : w1.ownsRow wz.heap.size 27 3 vc ln (flat l) := by rw [← HLN.out]; exact ho
  have HW : Hid (∀ j, vc.ownBlock = some j → wz.heap.size ≤ j) := fun j e => (ho'.lt _ e).1
  clear D ho
  go_wp2_with (at_builtin; refine wpList_append_own _ rfl _ _ 22 rfl wz.heap.size 27 i0 (.agg #[.int .i64 0, .int .i64 0, .int .i64 0]) 3 24 Try.underlying22 hi0 hz0 hz1 hz2 rfl (by decide) _ _ _ rfl (ho'.alloc _) ⟨w1.heap.size, 0, none⟩ 1 1 [.int .i64 L, .int .i64 H, .int .i64 1] rfl rfl ?c1 ?c2 ?c3 ?c4 ?c5 ?_)
  try (case c1 => exact one_new w1 _ _ _ _)
  case c2 => first | (intro u hu; simp at hu; rcases hu with rfl | rfl | rfl <;> rfl) | (refine ⟨?_, ?_, ?_⟩ <;> rfl)
  case c3 => unfold maxLen; omega
  case c4 => omega
  case c5 => first | omega | (simp; omega)
  intro v2 w2 hown2 hgrow2 _
  have B2 := Below.grown (b1.alloc hs1 (.cells #[.int .i64 L, .int .i64 H, .int .i64 1] 27)) hgrow2 (by simp; omega) HW.out
  have hl' : (l ++ [(L, H, 1)]).length = ln + 1 := by rw [List.length_append, HLN.out]; rfl
  have O2 : Own w2 wz.heap.size v2 (l ++ [(L, H, 1)]) := by
    unfold Own; rw [flat_append, flat_three, hl']; exact hown2
  obtain ⟨a2, c2, rfl, hv2, _, _, _⟩ := O2.view
  rw [hl']
  have B3 := B2.alloc B2.size (.cells #[.bool false, .bool true] 4)
  have hv3 := hv2.below ((Below.refl w2.heap.size w2).alloc (Nat.le_refl _) (.cells #[.bool false, .bool true] 4))
  have hvs : boo.Vals (w2.alloc (.cells #[.bool false, .bool true] 4)) VB (some ⟨w2.heap.size, 0, none⟩) 2 := by
    refine .inr ⟨_, _, rfl, fun i hi => ?_⟩
    match i, hi with
    | 0, _ => simp [VB]
    | 1, _ => simp [VB]
  have E := boo.build_any VB a2 (some ⟨w2.heap.size, 0, none⟩) c2 2 2 (l ++ [(L, H, 1)]) _ (by rw [hl']; omega) hv3 hvs
  rw [hl'] at E
  clear hown2 hgrow2 O2 hv2 hv3 hvs hl' ho' b1 B2
  go_wp2_with fail
  refine E.mono ?_
  rintro e w4 ⟨tb, s, rfl, ht, hr, hat, b4⟩
  have B4 := B3.trans (b4.mono B3.size)
  have F := boo.get_any _ VB tb s r w4 ht hr
  have KEY2 : Hid (L ≤ r → r ≤ H → at_ s r = some 1) := KEY.out s hat
  clear E ht hr hat b4 B3 KEY
  obtain ⟨o, hoe⟩ : ∃ o, at_ s r = o := ⟨_, rfl⟩
  rw [hoe] at F KEY2
  clear hoe
  go_wp2_with fail
  refine F.mono ?_
  rintro e w5 ⟨rfl, b5⟩
  have B5 := B4.trans (b5.mono B4.size)
  clear F b5 B4
  have W := awake_any w5
  by_cases t1 : H < L
  · generalize boo.told VB o = tv
    generalize o.isSome = tk
    clear KEY2
    go_wp2_with fail
    refine W.mono ?_
    rintro e w6 ⟨rfl, b6⟩
    go_wp2
    go_ret
    exact ⟨rfl, B5.trans (b6.mono B5.size)⟩
  by_cases t2 : r < L
  · generalize boo.told VB o = tv
    generalize o.isSome = tk
    clear KEY2
    go_wp2_with fail
    refine W.mono ?_
    rintro e w6 ⟨rfl, b6⟩
    go_wp2
    go_ret
    exact ⟨rfl, B5.trans (b6.mono B5.size)⟩
  by_cases t3 : H < r
  · generalize boo.told VB o = tv
    generalize o.isSome = tk
    clear KEY2
    go_wp2_with fail
    refine W.mono ?_
    rintro e w6 ⟨rfl, b6⟩
    go_wp2
    go_ret
    exact ⟨rfl, B5.trans (b6.mono B5.size)⟩
  obtain rfl := KEY2.out (by omega) (by omega)
  have et : boo.told VB (some 1) = .bool true := rfl
  have es : (some (1 : Int)).isSome = true := rfl
  rw [et, es]
  clear KEY2
  go_wp2_with fail
  refine W.mono ?_
  rintro e w6 ⟨rfl, b6⟩
  go_wp2
  go_ret
  exact ⟨rfl, B5.trans (b6.mono B5.size)⟩
end Go.Proofs.Ytmglljceklmngaa.tri
