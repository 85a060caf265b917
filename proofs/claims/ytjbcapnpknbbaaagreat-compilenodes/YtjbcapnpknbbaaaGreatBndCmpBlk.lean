/- Texts that the proof leans on, one behind the other. -/
import Derived.Test.YtjbcapnpknbbaaaGreatBndCmpMov
import Derived.Deep.RegionHeld3
import Derived.Deep.RegionWith
import Derived.Deep.LoopGhost
import Derived.Deep.CutBlock

section
/- saved, block, split, loop. -/
set_option linter.unusedVariables false
set_option linter.unusedSimpArgs false
namespace Go.Proofs.YtjbcapnpknbbaaaGreat.cmp
open Go.RowKit nod
open Go.Proofs.YtjbcapnpknbbaaaGreat.rng (R RV info_parts)

theorem row3 (q1 q2 q3 : Pp) (W : World) (h1 : PV W 0 q1) (h2 : PV W 0 q2) (h3 : PV W 0 q3) (hb : lensP [q1.p, q2.p, q3.p] ≤ 1000000) :
    Calls Tryz.prog 82 #[.slice (some ⟨W.heap.size, 0, none⟩) 3 3] (W.alloc (.cells #[.slice q1.ka q1.kn q1.kc, .int .i64 q1.p.2, .slice q2.ka q2.kn q2.kc, .int .i64 q2.p.2, .slice q3.ka q3.kn q3.kc, .int .i64 q3.p.2] 55)) fun e w' => ∃ q : Pp, e = .returned (.agg #[.slice q.ka q.kn q.kc, .int .i64 q.p.2]) ∧ q.p = rowP [q1.p, q2.p, q3.p] ∧ PV w' W.heap.size q ∧ Below W.heap.size W w' ∧ OR w' W.heap.size q := by
  have B := (Below.refl _ W).alloc (Nat.le_refl _) (.cells #[.slice q1.ka q1.kn q1.kc, .int .i64 q1.p.2, .slice q2.ka q2.kn q2.kc, .int .i64 q2.p.2, .slice q3.ka q3.kn q3.kc, .int .i64 q3.p.2] 55)
  have K := Bk.new W #[.slice q1.ka q1.kn q1.kc, .int .i64 q1.p.2, .slice q2.ka q2.kn q2.kc, .int .i64 q2.p.2, .slice q3.ka q3.kn q3.kc, .int .i64 q3.p.2] 55
  refine (row_own (some ⟨W.heap.size, 0, none⟩) 3 3 [q1, q2, q3] _ rfl (.inr ⟨W.heap.size, 0, rfl, by simp, fun k q hk => ?_⟩) (fun q hq => ?_) hb (by omega)).mono ?_
  · match k, hk with
    | 0, hk => simp at hk; subst hk; exact ⟨by simp, by simp⟩
    | 1, hk => simp at hk; subst hk; exact ⟨by simp, by simp⟩
    | 2, hk => simp at hk; subst hk; exact ⟨by simp, by simp⟩
    | k + 3, hk => simp at hk
  · simp only [List.mem_cons, List.mem_nil_iff, or_false] at hq
    rcases hq with rfl | rfl | rfl
    · exact h1.on B
    · exact h2.on B
    · exact h3.on B
  · rintro e w' ⟨q, rfl, e2, hv, b, ho⟩
    exact ⟨q, rfl, e2, hv.wide (by simp), B.trans (b.mono (by simp)), ho.wide (by simp)⟩
theorem pv_one {w : World} {g : Nat} {i : Is SV} (h : CR w (some ⟨g, 0, none⟩) [i]) (hg : g < w.heap.size) (hf : 0 ≤ i.x ∧ i.x ≤ 1000001 ∧ 0 ≤ i.y ∧ i.y ≤ 1000001) : PV w 0 ⟨some ⟨g, 0, none⟩, 1, 1, oneP i⟩ :=
  ⟨rfl, h, fun x e => by cases e; exact ⟨Nat.zero_le _, hg⟩, ⟨Int.le_refl _, by simp [oneP], fun j hj => by simp [oneP] at hj; subst hj; simp [oneP]; omega⟩⟩
theorem cr_lt {w : World} {g : Nat} {i : Is SV} (h : CR w (some ⟨g, 0, none⟩) [i]) : g < w.heap.size := by
  obtain ⟨b, off, e, hc⟩ := h.pos (by simp)
  cases e
  exact CR.lt hc (by simp)
def sn : SV := (none, 0, 0)
set_option maxRecDepth 10000 in
set_option maxHeartbeats 8000000 in
theorem saved_own (k : Int) (q : Pp) (w : World) (hk : 0 ≤ k ∧ k ≤ 20) (hq : PV w 0 q) (hb : q.kn ≤ 900000) :
    Calls Tryz.prog 55 #[.int .i64 k, .agg #[.slice q.ka q.kn q.kc, .int .i64 q.p.2]] w fun e w' => ∃ r : Pp, e = .returned (.agg #[.slice r.ka r.kn r.kc, .int .i64 r.p.2]) ∧ r.p = savedP sn k q.p ∧ PV w' w.heap.size r ∧ Below w.heap.size w w' ∧ OR w' w.heap.size r := by
  obtain ⟨ka, kn, kc, p⟩ := q
  have hlen := hq.len
  simp only at *
  obtain ⟨A1, hA1⟩ : ∃ A1, IntKind.i64.wrap (2 * k) = A1 := ⟨_, rfl⟩
  obtain ⟨A2, hA2⟩ : ∃ A2, IntKind.i64.wrap (A1 + 1) = A2 := ⟨_, rfl⟩
  have eA1 : A1 = 2 * k := by rw [← hA1, IntKind.wrap_i64]; omega
  have eA2 : A2 = 2 * k + 1 := by rw [← hA2, IntKind.wrap_i64]; omega
  have HK : Hid (0 ≤ k ∧ k ≤ 20) := hk
  have HA : Hid (A1 = 2 * k ∧ A2 = 2 * k + 1) := ⟨eA1, eA2⟩
  have HS : Hid (savedP sn k p = rowP [oneP (ins sn 4 A1 0), p, oneP (ins sn 4 A2 0)]) := by unfold Hid savedP; rw [eA1, eA2]
  have HBW : Hid (Below w.heap.size w ((w.alloc (.cells #[.slice ka kn kc, .int .i64 p.2] 55)).alloc (.cells #[.slice none 0 0, .int .i64 0] 55))) := below2 _ _ _
  have HKX : Hid (Bk ((w.alloc (.cells #[.slice ka kn kc, .int .i64 p.2] 55)).alloc (.cells #[.slice none 0 0, .int .i64 0] 55)) w.heap.size #[.slice ka kn kc, .int .i64 p.2] 55) := (Bk.new w _ _).past _
  have HR : Hid (Bk ((w.alloc (.cells #[.slice ka kn kc, .int .i64 p.2] 55)).alloc (.cells #[.slice none 0 0, .int .i64 0] 55)) (w.heap.size + 1) #[.slice none 0 0, .int .i64 0] 55) := bk2
  have HQ : Hid (PV ((w.alloc (.cells #[.slice ka kn kc, .int .i64 p.2] 55)).alloc (.cells #[.slice none 0 0, .int .i64 0] 55)) 0 ⟨ka, kn, kc, p⟩) := hq.on (below2 _ _ _)
  have HLB : Hid (lensP [oneP (ins sn 4 A1 0), p, oneP (ins sn 4 A2 0)] ≤ 1000000) := by unfold Hid lensP; simp [oneP, hlen]; omega
  have hz : ((w.alloc (.cells #[.slice ka kn kc, .int .i64 p.2] 55)).alloc (.cells #[.slice none 0 0, .int .i64 0] 55)).heap.size = w.heap.size + 1 + 1 := by simp
  have HF1 : Hid (0 ≤ (ins sn 4 A1 0).x ∧ (ins sn 4 A1 0).x ≤ 1000001 ∧ 0 ≤ (ins sn 4 A1 0).y ∧ (ins sn 4 A1 0).y ≤ 1000001) := by unfold Hid; simp only [ins]; omega
  have HF2 : Hid (0 ≤ (ins sn 4 A2 0).x ∧ (ins sn 4 A2 0).x ≤ 1000001 ∧ 0 ≤ (ins sn 4 A2 0).y ∧ (ins sn 4 A2 0).y ≤ 1000001) := by unfold Hid; simp only [ins]; omega
  clear eA1 eA2 hk hq hb hlen
  generalize hW1 : ((w.alloc (.cells #[.slice ka kn kc, .int .i64 p.2] 55)).alloc (.cells #[.slice none 0 0, .int .i64 0] 55)) = w1 at *
  have HW1 : Hid (((w.alloc (.cells #[.slice ka kn kc, .int .i64 p.2] 55)).alloc (.cells #[.slice none 0 0, .int .i64 0] 55)) = w1) := hW1
  have c0 := HKX.out.cell 0 (u := .slice ka kn kc) rfl
  have c1 := HKX.out.cell 1 (u := .int .i64 p.2) rfl
  go_enter Tryz.func55, Tryz.ntmps55
  go_wp2
  try rw [HW1.out]
  clear hW1 HW1
  go_region_held3 (fun w' => w'.cell? ⟨w.heap.size, 0, none⟩ = some (.slice ka kn kc) ∧ w'.cell? ⟨w.heap.size, 1, none⟩ = some (.int .i64 p.2)) (go_keep) (first
    | (go_at_call_of 83 (Value.int IntKind.i64 A1); refine (one_any (ins sn 4 A1 0) _).mono ?_; rintro e w2 ⟨g1, rfl, cr1, hg1, d1⟩; have b2 : Below w1.heap.size w1 w2 := (Below.refl _ w1).drew.trans d1; have B2 : Hid (Below w1.heap.size w1 w2) := b2; have CR1 : Hid (CR w2 (some ⟨g1, 0, none⟩) [ins sn 4 A1 0]) := cr1; have z0 := (HKX.out.on b2).cell 0 (u := .slice ka kn kc) rfl; have z1 := (HKX.out.on b2).cell 1 (u := .int .i64 p.2) rfl; clear cr1 d1 b2)
    | (go_at_call_of 83 (Value.int IntKind.i64 A2); refine (one_any (ins sn 4 A2 0) _).mono ?_; rintro e w3 ⟨g2, rfl, cr2, hg2, d2⟩; have b3 : Below w1.heap.size w1 w3 := B2.out.trans (below_less d2 B2.out.size); have B3 : Hid (Below w1.heap.size w1 w3) := b3; have CR2 : Hid (CR w3 (some ⟨g2, 0, none⟩) [ins sn 4 A2 0]) := cr2; have CR1' : Hid (CR w3 (some ⟨g1, 0, none⟩) [ins sn 4 A1 0]) := CR1.out.below d2; have y0 := (HKX.out.on b3).cell 0 (u := .slice ka kn kc) rfl; have y1 := (HKX.out.on b3).cell 1 (u := .int .i64 p.2) rfl; clear cr2 d2 b3)
    | (go_at_call 82; refine (row3 ⟨some ⟨g1, 0, none⟩, 1, 1, oneP (ins sn 4 A1 0)⟩ ⟨ka, kn, kc, p⟩ ⟨some ⟨g2, 0, none⟩, 1, 1, oneP (ins sn 4 A2 0)⟩ w3 (pv_one CR1'.out (cr_lt CR1'.out) HF1.out) (HQ.out.on B3.out) (pv_one CR2.out (cr_lt CR2.out) HF2.out) HLB.out).mono ?_; rintro e w4 ⟨r, rfl, hr, pv, d4, hor⟩; have HOR : Hid (OR w4 w3.heap.size r) := hor; clear hor; have b4 : Below w1.heap.size w1 w4 := B3.out.trans (below_less d4 B3.out.size); have B4 : Hid (Below w1.heap.size w1 w4) := b4; have HPR : Hid (r.p = rowP [oneP (ins sn 4 A1 0), p, oneP (ins sn 4 A2 0)] ∧ PV w4 w3.heap.size r) := ⟨hr, pv⟩; have HR4 : Hid (Bk w4 (w.heap.size + 1) #[.slice none 0 0, .int .i64 0] 55) := HR.out.on b4; have x0 := (HKX.out.on b4).cell 0 (u := .slice ka kn kc) rfl; have x1 := (HKX.out.on b4).cell 1 (u := .int .i64 p.2) rfl; have s0 := (HR.out.on b4).cell 0 (u := .slice none 0 0) rfl; have s1 := (HR.out.on b4).cell 1 (u := .int .i64 0) rfl; have f0 := (HR.out.on b4).frozen 0; have f1 := (HR.out.on b4).frozen 1; clear hr pv d4 b4))
  all_goals go_wp2
  all_goals refine bodyPost_ret (results_cell_row Tryz.results55 _ _ (w.heap.size + 1) _ #[.slice r.ka r.kn r.kc, .int .i64 r.p.2] _ _ rfl (HR4.out.set2 _ _) Tryz.underlying55 rfl infP) rfl ?_
  all_goals
    have hs3 := B3.out.size
    exact ⟨r, rfl, HPR.out.1.trans HS.out.symm, ((HPR.out.2.set (by omega) 0 _).set (by omega) 1 _).wide (by omega), ((HBW.out.trans (below_less B4.out (by omega))).setCell (p := ⟨w.heap.size + 1, 0, none⟩) (by simp) _).setCell (p := ⟨w.heap.size + 1, 1, none⟩) (by simp) _, ((HOR.out.set (by omega) 0 _).set (by omega) 1 _).wide (by omega)⟩
theorem saved_any (k : Int) (q : Pp) (w : World) (hk : 0 ≤ k ∧ k ≤ 20) (hq : PV w 0 q) (hb : q.kn ≤ 900000) :
    Calls Tryz.prog 55 #[.int .i64 k, .agg #[.slice q.ka q.kn q.kc, .int .i64 q.p.2]] w fun e w' => ∃ r : Pp, e = .returned (.agg #[.slice r.ka r.kn r.kc, .int .i64 r.p.2]) ∧ r.p = savedP sn k q.p ∧ PV w' w.heap.size r ∧ Below w.heap.size w w' :=
  (saved_own k q w hk hq hb).mono fun _ _ ⟨r, h1, h2, h3, h4, _⟩ => ⟨r, h1, h2, h3, h4⟩
theorem cc8 {W : World} {g h : Nat} {a0 a1 a2 a3 a4 a5 b0 b1 : Value} {t u : TypeId} (x : Bk W g #[a0, a1, a2, a3, a4, a5] t) (y : Bk W h #[b0, b1] u) : W.cell? ⟨g, 0, none⟩ = some a0 ∧ W.cell? ⟨g, 1, none⟩ = some a1 ∧ W.cell? ⟨g, 2, none⟩ = some a2 ∧ W.cell? ⟨g, 3, none⟩ = some a3 ∧ W.cell? ⟨g, 4, none⟩ = some a4 ∧ W.cell? ⟨g, 5, none⟩ = some a5 ∧ W.cell? ⟨h, 0, none⟩ = some b0 ∧ W.cell? ⟨h, 1, none⟩ = some b1 :=
  ⟨x.cell 0 rfl, x.cell 1 rfl, x.cell 2 rfl, x.cell 3 rfl, x.cell 4 rfl, x.cell 5 rfl, y.cell 0 rfl, y.cell 1 rfl⟩
set_option maxRecDepth 10000 in
set_option maxHeartbeats 8000000 in
theorem block_any (o x mn mx y0 : Int) (ia : Option Addr) (il ic : Nat) (q : Pp) (w : World) (hx : 0 ≤ x ∧ x ≤ 50) (hq : PV w 0 q) (hb : q.kn ≤ 900000) :
    Calls Tryz.prog 95 #[.agg #[.int .i64 o, .int .i64 x, .int .i64 y0, .int .i64 mn, .int .i64 mx, .slice ia il ic], .agg #[.slice q.ka q.kn q.kc, .int .i64 q.p.2]] w fun e w' => ∃ r : Pp, e = .returned (.agg #[.slice r.ka r.kn r.kc, .int .i64 r.p.2]) ∧ r.p = blockP sn ⟨o, x, y0, mn, mx, (ia, il, ic)⟩ q.p ∧ PV w' w.heap.size r ∧ Below w.heap.size w w' := by
  obtain ⟨ka, kn, kc, p⟩ := q
  have hlen := hq.len
  simp only at *
  obtain ⟨Y, hY⟩ : ∃ Y : Int, Y = (kn : Int) + 2 := ⟨_, rfl⟩
  have HS : Hid (blockP sn ⟨o, x, y0, mn, mx, (ia, il, ic)⟩ p = rowP [oneP ⟨o, x, Y, mn, mx, (ia, il, ic)⟩, p, oneP (ins sn 12 0 0)]) := by unfold Hid blockP; rw [hlen, hY]
  have HBW : Hid (Below w.heap.size w (((w.alloc (.cells #[.int .i64 o, .int .i64 x, .int .i64 Y, .int .i64 mn, .int .i64 mx, .slice ia il ic] 66)).alloc (.cells #[.slice ka kn kc, .int .i64 p.2] 55)).alloc (.cells #[.slice none 0 0, .int .i64 0] 55))) := (below2 _ _ _).trans (((Below.refl _ _).alloc (Nat.le_refl _) _).mono (by simp; omega))
  have HIX : Hid (Bk (((w.alloc (.cells #[.int .i64 o, .int .i64 x, .int .i64 Y, .int .i64 mn, .int .i64 mx, .slice ia il ic] 66)).alloc (.cells #[.slice ka kn kc, .int .i64 p.2] 55)).alloc (.cells #[.slice none 0 0, .int .i64 0] 55)) w.heap.size #[.int .i64 o, .int .i64 x, .int .i64 Y, .int .i64 mn, .int .i64 mx, .slice ia il ic] 66) := ((Bk.new w _ _).past _).past _
  have HKX : Hid (Bk (((w.alloc (.cells #[.int .i64 o, .int .i64 x, .int .i64 Y, .int .i64 mn, .int .i64 mx, .slice ia il ic] 66)).alloc (.cells #[.slice ka kn kc, .int .i64 p.2] 55)).alloc (.cells #[.slice none 0 0, .int .i64 0] 55)) (w.heap.size + 1) #[.slice ka kn kc, .int .i64 p.2] 55) := bk2.past _
  have HR : Hid (Bk (((w.alloc (.cells #[.int .i64 o, .int .i64 x, .int .i64 Y, .int .i64 mn, .int .i64 mx, .slice ia il ic] 66)).alloc (.cells #[.slice ka kn kc, .int .i64 p.2] 55)).alloc (.cells #[.slice none 0 0, .int .i64 0] 55)) (w.heap.size + 1 + 1) #[.slice none 0 0, .int .i64 0] 55) := by
    have := Bk.new ((w.alloc (.cells #[.int .i64 o, .int .i64 x, .int .i64 Y, .int .i64 mn, .int .i64 mx, .slice ia il ic] 66)).alloc (.cells #[.slice ka kn kc, .int .i64 p.2] 55)) #[.slice none 0 0, .int .i64 0] 55
    simpa [Hid] using this
  have HQ : Hid (PV (((w.alloc (.cells #[.int .i64 o, .int .i64 x, .int .i64 Y, .int .i64 mn, .int .i64 mx, .slice ia il ic] 66)).alloc (.cells #[.slice ka kn kc, .int .i64 p.2] 55)).alloc (.cells #[.slice none 0 0, .int .i64 0] 55)) 0 ⟨ka, kn, kc, p⟩) := hq.on ((below2 _ _ _).trans (((Below.refl _ _).alloc (Nat.le_refl _) _).mono (by simp; omega)))
  have HLB : Hid (lensP [oneP (⟨o, x, Y, mn, mx, (ia, il, ic)⟩ : Is SV), p, oneP (ins sn 12 0 0)] ≤ 1000000) := by unfold Hid lensP; simp [oneP, hlen]; omega
  have HF1 : Hid (0 ≤ x ∧ x ≤ 1000001 ∧ 0 ≤ Y ∧ Y ≤ 1000001) := by unfold Hid; omega
  have hz : (((w.alloc (.cells #[.int .i64 o, .int .i64 x, .int .i64 Y, .int .i64 mn, .int .i64 mx, .slice ia il ic] 66)).alloc (.cells #[.slice ka kn kc, .int .i64 p.2] 55)).alloc (.cells #[.slice none 0 0, .int .i64 0] 55)).heap.size = w.heap.size + 1 + 1 + 1 := by simp
  have HY : Hid (Y = (kn : Int) + 2) := hY
  have hY2 : (kn : Int) + 2 = Y := hY.symm
  clear hY hq hlen hx
  generalize hW1 : (((w.alloc (.cells #[.int .i64 o, .int .i64 x, .int .i64 Y, .int .i64 mn, .int .i64 mx, .slice ia il ic] 66)).alloc (.cells #[.slice ka kn kc, .int .i64 p.2] 55)).alloc (.cells #[.slice none 0 0, .int .i64 0] 55)) = w1 at *
  have HW1 : Hid ((((w.alloc (.cells #[.int .i64 o, .int .i64 x, .int .i64 Y, .int .i64 mn, .int .i64 mx, .slice ia il ic] 66)).alloc (.cells #[.slice ka kn kc, .int .i64 p.2] 55)).alloc (.cells #[.slice none 0 0, .int .i64 0] 55)) = w1) := hW1
  have i0 := HIX.out.cell 0 (u := .int .i64 o) rfl
  have i1 := HIX.out.cell 1 (u := .int .i64 x) rfl
  have i2 := HIX.out.cell 2 (u := .int .i64 Y) rfl
  have i3 := HIX.out.cell 3 (u := .int .i64 mn) rfl
  have i4 := HIX.out.cell 4 (u := .int .i64 mx) rfl
  have i5 := HIX.out.cell 5 (u := .slice ia il ic) rfl
  have c0 := HKX.out.cell 0 (u := .slice ka kn kc) rfl
  have c1 := HKX.out.cell 1 (u := .int .i64 p.2) rfl
  have n1 : ¬ w.heap.size = w.heap.size + 1 + 1 := by omega
  have n2 : ¬ w.heap.size + 1 + 1 = w.heap.size := by omega
  go_enter Tryz.func95, Tryz.ntmps95
  go_wp2
  try rw [HW1.out]
  clear hW1 HW1
  go_region_held3 (fun w' => w'.cell? ⟨w.heap.size, 0, none⟩ = some (.int .i64 o) ∧ w'.cell? ⟨w.heap.size, 1, none⟩ = some (.int .i64 x) ∧ w'.cell? ⟨w.heap.size, 2, none⟩ = some (.int .i64 Y) ∧ w'.cell? ⟨w.heap.size, 3, none⟩ = some (.int .i64 mn) ∧ w'.cell? ⟨w.heap.size, 4, none⟩ = some (.int .i64 mx) ∧ w'.cell? ⟨w.heap.size, 5, none⟩ = some (.slice ia il ic) ∧ w'.cell? ⟨w.heap.size + 1, 0, none⟩ = some (.slice ka kn kc) ∧ w'.cell? ⟨w.heap.size + 1, 1, none⟩ = some (.int .i64 p.2)) (go_keep) (first
    | (go_at_call_of 83 (Value.int IntKind.i64 Y); refine (one_any ⟨o, x, Y, mn, mx, (ia, il, ic)⟩ _).mono ?_; rintro e w2 ⟨g1, rfl, cr1, hg1, d1⟩; have b2 : Below w1.heap.size w1 w2 := (Below.refl _ w1).drew.trans d1; have B2 : Hid (Below w1.heap.size w1 w2) := b2; have CR1 : Hid (CR w2 (some ⟨g1, 0, none⟩) [⟨o, x, Y, mn, mx, (ia, il, ic)⟩]) := cr1; have zz : w2.cell? ⟨w.heap.size, 0, none⟩ = some (.int .i64 o) ∧ w2.cell? ⟨w.heap.size, 1, none⟩ = some (.int .i64 x) ∧ w2.cell? ⟨w.heap.size, 2, none⟩ = some (.int .i64 Y) ∧ w2.cell? ⟨w.heap.size, 3, none⟩ = some (.int .i64 mn) ∧ w2.cell? ⟨w.heap.size, 4, none⟩ = some (.int .i64 mx) ∧ w2.cell? ⟨w.heap.size, 5, none⟩ = some (.slice ia il ic) ∧ w2.cell? ⟨w.heap.size + 1, 0, none⟩ = some (.slice ka kn kc) ∧ w2.cell? ⟨w.heap.size + 1, 1, none⟩ = some (.int .i64 p.2) := cc8 (HIX.out.on b2) (HKX.out.on b2); obtain ⟨z0, z1, z2, z3, z4, z5, z6, z7⟩ := zz; clear cr1 d1 b2)
    | (go_at_call 83; refine (one_any (ins sn 12 0 0) _).mono ?_; rintro e w3 ⟨g2, rfl, cr2, hg2, d2⟩; have b3 : Below w1.heap.size w1 w3 := B2.out.trans (below_less d2 B2.out.size); have B3 : Hid (Below w1.heap.size w1 w3) := b3; have CR2 : Hid (CR w3 (some ⟨g2, 0, none⟩) [ins sn 12 0 0]) := cr2; have CR1' : Hid (CR w3 (some ⟨g1, 0, none⟩) [⟨o, x, Y, mn, mx, (ia, il, ic)⟩]) := CR1.out.below d2; have yy : w3.cell? ⟨w.heap.size, 0, none⟩ = some (.int .i64 o) ∧ w3.cell? ⟨w.heap.size, 1, none⟩ = some (.int .i64 x) ∧ w3.cell? ⟨w.heap.size, 2, none⟩ = some (.int .i64 Y) ∧ w3.cell? ⟨w.heap.size, 3, none⟩ = some (.int .i64 mn) ∧ w3.cell? ⟨w.heap.size, 4, none⟩ = some (.int .i64 mx) ∧ w3.cell? ⟨w.heap.size, 5, none⟩ = some (.slice ia il ic) ∧ w3.cell? ⟨w.heap.size + 1, 0, none⟩ = some (.slice ka kn kc) ∧ w3.cell? ⟨w.heap.size + 1, 1, none⟩ = some (.int .i64 p.2) := cc8 (HIX.out.on b3) (HKX.out.on b3); obtain ⟨y0, y1, y2, y3, y4, y5, y6, y7⟩ := yy; clear cr2 d2 b3)
    | (go_at_call 82; refine (row3 ⟨some ⟨g1, 0, none⟩, 1, 1, oneP ⟨o, x, Y, mn, mx, (ia, il, ic)⟩⟩ ⟨ka, kn, kc, p⟩ ⟨some ⟨g2, 0, none⟩, 1, 1, oneP (ins sn 12 0 0)⟩ w3 (pv_one CR1'.out (cr_lt CR1'.out) HF1.out) (HQ.out.on B3.out) (pv_one CR2.out (cr_lt CR2.out) (by simp [ins])) HLB.out).mono ?_; rintro e w4 ⟨r, rfl, hr, pv, d4, hor⟩; have HOR : Hid (OR w4 w3.heap.size r) := hor; clear hor; have b4 : Below w1.heap.size w1 w4 := B3.out.trans (below_less d4 B3.out.size); have B4 : Hid (Below w1.heap.size w1 w4) := b4; have HPR : Hid (r.p = rowP [oneP ⟨o, x, Y, mn, mx, (ia, il, ic)⟩, p, oneP (ins sn 12 0 0)] ∧ PV w4 w3.heap.size r) := ⟨hr, pv⟩; have HR4 : Hid (Bk w4 (w.heap.size + 1 + 1) #[.slice none 0 0, .int .i64 0] 55) := HR.out.on b4; have xx : w4.cell? ⟨w.heap.size, 0, none⟩ = some (.int .i64 o) ∧ w4.cell? ⟨w.heap.size, 1, none⟩ = some (.int .i64 x) ∧ w4.cell? ⟨w.heap.size, 2, none⟩ = some (.int .i64 Y) ∧ w4.cell? ⟨w.heap.size, 3, none⟩ = some (.int .i64 mn) ∧ w4.cell? ⟨w.heap.size, 4, none⟩ = some (.int .i64 mx) ∧ w4.cell? ⟨w.heap.size, 5, none⟩ = some (.slice ia il ic) ∧ w4.cell? ⟨w.heap.size + 1, 0, none⟩ = some (.slice ka kn kc) ∧ w4.cell? ⟨w.heap.size + 1, 1, none⟩ = some (.int .i64 p.2) := cc8 (HIX.out.on b4) (HKX.out.on b4); obtain ⟨x0, x1, x2, x3, x4, x5, x6, x7⟩ := xx; have s0 := (HR.out.on b4).cell 0 (u := .slice none 0 0) rfl; have s1 := (HR.out.on b4).cell 1 (u := .int .i64 0) rfl; have f0 := (HR.out.on b4).frozen 0; have f1 := (HR.out.on b4).frozen 1; clear hr pv d4 b4))
  all_goals go_wp2
  all_goals refine bodyPost_ret (results_cell_row Tryz.results95 _ _ (w.heap.size + 1 + 1) _ #[.slice r.ka r.kn r.kc, .int .i64 r.p.2] _ _ rfl (HR4.out.set2 _ _) Tryz.underlying55 rfl infP) rfl ?_
  all_goals
    have hs3 := B3.out.size
    exact ⟨r, rfl, HPR.out.1.trans HS.out.symm, ((HPR.out.2.set (by omega) 0 _).set (by omega) 1 _).wide (by omega), ((HBW.out.trans (below_less B4.out (by omega))).setCell (p := ⟨w.heap.size + 1 + 1, 0, none⟩) (by simp; omega) _).setCell (p := ⟨w.heap.size + 1 + 1, 1, none⟩) (by simp; omega) _⟩
end Go.Proofs.YtjbcapnpknbbaaaGreat.cmp
end

section
/- split, loop. -/
set_option linter.unusedVariables false
set_option linter.unusedSimpArgs false
namespace Go.Proofs.YtjbcapnpknbbaaaGreat.cmp
open Go.RowKit nod
open Go.Proofs.YtjbcapnpknbbaaaGreat.rng (R RV info_parts)

theorem PS.newm (w : World) (m : Int) : PS (w.alloc (.cells #[.slice none 0 0, .int .i64 m] 55)) (w.alloc (.cells #[.slice none 0 0, .int .i64 m] 55)) w.heap.size none ([], m) :=
  ⟨⟨.slice none 0 0, Bk.new w _ _, World.ownsRow_nil _ _ _ _, fun x e => by cases e⟩, Kq.refl _ _, by simp⟩
theorem cr_bk2 {w : World} {g : Nat} {i j : Is SV} {t : TypeId} (h : Bk w g #[.int .i64 i.op, .int .i64 i.x, .int .i64 i.y, .int .i64 i.mn, .int .i64 i.mx, .slice i.set.1 i.set.2.1 i.set.2.2, .int .i64 j.op, .int .i64 j.x, .int .i64 j.y, .int .i64 j.mn, .int .i64 j.mx, .slice j.set.1 j.set.2.1 j.set.2.2] t) : CR w (some ⟨g, 0, none⟩) [i, j] := by
  refine .inr ⟨g, 0, rfl, fun k x hk c u hu => ?_⟩
  have hc : c < 6 := by have := (List.getElem?_eq_some_iff.1 hu).1; simpa [cells6] using this
  match k, hk with
  | 0, hk =>
    simp at hk; subst hk
    match c, hu with
    | 0, hu => simp [cells6] at hu; subst hu; exact h.cell 0 rfl
    | 1, hu => simp [cells6] at hu; subst hu; exact h.cell 1 rfl
    | 2, hu => simp [cells6] at hu; subst hu; exact h.cell 2 rfl
    | 3, hu => simp [cells6] at hu; subst hu; exact h.cell 3 rfl
    | 4, hu => simp [cells6] at hu; subst hu; exact h.cell 4 rfl
    | 5, hu => simp [cells6, sv] at hu; subst hu; exact h.cell 5 rfl
    | c + 6, hu => omega
  | 1, hk =>
    simp at hk; subst hk
    match c, hu with
    | 0, hu => simp [cells6] at hu; subst hu; exact h.cell 6 rfl
    | 1, hu => simp [cells6] at hu; subst hu; exact h.cell 7 rfl
    | 2, hu => simp [cells6] at hu; subst hu; exact h.cell 8 rfl
    | 3, hu => simp [cells6] at hu; subst hu; exact h.cell 9 rfl
    | 4, hu => simp [cells6] at hu; subst hu; exact h.cell 10 rfl
    | 5, hu => simp [cells6, sv] at hu; subst hu; exact h.cell 11 rfl
    | c + 6, hu => omega
  | k + 2, hk => simp at hk
set_option maxRecDepth 10000 in
set_option maxHeartbeats 8000000 in
theorem split_any (m a b : Int) (w : World) : Calls Tryz.prog 100 #[.int .i64 m, .int .i64 a, .int .i64 b] w fun e w' => e = .returned (agg6 (splitI sn m a b)) ∧ Below w.heap.size w w' := by
  by_cases hm : m = 1
  · subst hm
    rw [show splitI sn 1 a b = ins sn 2 b a from rfl, agg6]
    go_enter Tryz.func100, Tryz.ntmps100
    go_wp2
    refine bodyPost_ret (results_cell_row Tryz.results100 _ _ w.heap.size _ #[.int .i64 2, .int .i64 b, .int .i64 a, .int .i64 0, .int .i64 0, .slice none 0 0] _ _ rfl (Bk.new w _ _) Tryz.underlying66 rfl inf6) rfl ?_
    exact ⟨rfl, (Below.refl _ w).alloc (Nat.le_refl _) _⟩
  · have f : (m == 1) = false := by simpa using hm
    rw [show splitI sn m a b = ins sn 2 a b from if_neg hm, agg6]
    clear hm
    go_enter Tryz.func100, Tryz.ntmps100
    go_wp2
    refine bodyPost_ret (results_cell_row Tryz.results100 _ _ w.heap.size _ #[.int .i64 2, .int .i64 a, .int .i64 b, .int .i64 0, .int .i64 0, .slice none 0 0] _ _ rfl (Bk.new w _ _) Tryz.underlying66 rfl inf6) rfl ?_
    exact ⟨rfl, (Below.refl _ w).alloc (Nat.le_refl _) _⟩
theorem split_fit (m a b : Int) (K : Int) (ha : 0 ≤ a ∧ a ≤ K) (hb : 0 ≤ b ∧ b ≤ K) : 0 ≤ (splitI sn m a b).x ∧ (splitI sn m a b).x ≤ K ∧ 0 ≤ (splitI sn m a b).y ∧ (splitI sn m a b).y ≤ K := by
  unfold splitI ins; split <;> simp only <;> omega
theorem split_mem (m a b : Int) : ∃ x y, splitI sn m a b = ins sn 2 x y := by
  unfold splitI; split
  · exact ⟨_, _, rfl⟩
  · exact ⟨_, _, rfl⟩
theorem fit_loop (m : Int) (p : Pc SV) (hp : FitP p) (hb : p.1.length ≤ 900000) : FitP (([splitI sn m 1 ((p.1.length : Int) + 4), ins sn 10 0 0], 1) : Pc SV) ∧ FitP (loopP sn m p) := by
  have h1 : FitP (([splitI sn m 1 ((p.1.length : Int) + 4), ins sn 10 0 0], 1) : Pc SV) := by
    refine ⟨by simp, by simp, fun i hi => ?_⟩
    simp at hi
    rcases hi with rfl | rfl
    · have := split_fit m 1 ((p.1.length : Int) + 4) 1000002 (by omega) (by omega); simpa using this
    · simp [ins]
  refine ⟨h1, fit_put (fit_add h1 hp) fun i hi => ?_⟩
  rw [len_addP]
  simp at hi
  rcases hi with rfl | rfl
  · simp [ins]; omega
  · simp [ins]; omega
set_option maxRecDepth 10000 in
set_option maxHeartbeats 8000000 in
theorem loop_any (m : Int) (q : Pp) (w : World) (hq : PV w 0 q) (hb : q.kn ≤ 900000) :
    Calls Tryz.prog 99 #[.int .i64 m, .agg #[.slice q.ka q.kn q.kc, .int .i64 q.p.2]] w fun e w' => ∃ r : Pp, e = .returned (.agg #[.slice r.ka r.kn r.kc, .int .i64 r.p.2]) ∧ r.p = loopP sn m q.p ∧ PV w' w.heap.size r ∧ Below w.heap.size w w' := by
  obtain ⟨ka, kn, kc, p⟩ := q
  have hlen := hq.len
  have hka := hq.at_
  have hfit := hq.fit
  simp only at *
  obtain ⟨F1, F2⟩ := fit_loop m p hfit (by omega)
  obtain ⟨sx, sy, hsp⟩ := split_mem m 1 ((kn : Int) + 4)
  rw [hlen, hsp] at F1
  have HS : Hid (loopP sn m p = putP (addP ([ins sn 2 sx sy, ins sn 10 0 0], 1) p) [ins sn 11 0 ((kn : Int) + 4), ins sn 3 0 0]) := by unfold Hid loopP; rw [hlen, hsp]
  have HFL : Hid (FitP (loopP sn m p) ∧ FitP (([ins sn 2 sx sy, ins sn 10 0 0], 1) : Pc SV) ∧ FitP p) := ⟨F2, F1, hfit⟩
  have HBW : Hid (Below w.heap.size w (((w.alloc (.cells #[.slice ka kn kc, .int .i64 p.2] 55)).alloc (.cells #[.slice none 0 0, .int .i64 0] 55)).alloc (.cells #[.slice none 0 0, .int .i64 1] 55))) := (below2 _ _ _).trans (((Below.refl _ _).alloc (Nat.le_refl _) _).mono (by simp; omega))
  have HKX : Hid (Bk (((w.alloc (.cells #[.slice ka kn kc, .int .i64 p.2] 55)).alloc (.cells #[.slice none 0 0, .int .i64 0] 55)).alloc (.cells #[.slice none 0 0, .int .i64 1] 55)) w.heap.size #[.slice ka kn kc, .int .i64 p.2] 55) := ((Bk.new w _ _).past _).past _
  have HR : Hid (Bk (((w.alloc (.cells #[.slice ka kn kc, .int .i64 p.2] 55)).alloc (.cells #[.slice none 0 0, .int .i64 0] 55)).alloc (.cells #[.slice none 0 0, .int .i64 1] 55)) (w.heap.size + 1) #[.slice none 0 0, .int .i64 0] 55) := bk2.past _
  have HP0 : Hid (PS (((w.alloc (.cells #[.slice ka kn kc, .int .i64 p.2] 55)).alloc (.cells #[.slice none 0 0, .int .i64 0] 55)).alloc (.cells #[.slice none 0 0, .int .i64 1] 55)) (((w.alloc (.cells #[.slice ka kn kc, .int .i64 p.2] 55)).alloc (.cells #[.slice none 0 0, .int .i64 0] 55)).alloc (.cells #[.slice none 0 0, .int .i64 1] 55)) (w.heap.size + 1 + 1) none ([], 1)) := by
    have := PS.newm ((w.alloc (.cells #[.slice ka kn kc, .int .i64 p.2] 55)).alloc (.cells #[.slice none 0 0, .int .i64 0] 55)) 1
    simpa [Hid] using this
  have HQ : Hid (CR (((w.alloc (.cells #[.slice ka kn kc, .int .i64 p.2] 55)).alloc (.cells #[.slice none 0 0, .int .i64 0] 55)).alloc (.cells #[.slice none 0 0, .int .i64 1] 55)) ka p.1) := hq.cr.below ((below2 _ _ _).trans (((Below.refl _ _).alloc (Nat.le_refl _) _).mono (by simp; omega)))
  have HKA : Hid (∀ x, ka = some x → x.block < w.heap.size) := fun x e => (hka x e).2
  have HLN : Hid (p.1.length = kn) := hlen
  have hz : (((w.alloc (.cells #[.slice ka kn kc, .int .i64 p.2] 55)).alloc (.cells #[.slice none 0 0, .int .i64 0] 55)).alloc (.cells #[.slice none 0 0, .int .i64 1] 55)).heap.size = w.heap.size + 1 + 1 + 1 := by simp
  have CS := fun W => split_any m 1 ((kn : Int) + 4) W
  rw [hsp, agg6, sv] at CS
  simp only [ins, sn] at CS
  clear hq hlen hka hfit F1 F2 hsp
  have c0 := HKX.out.cell 0 (u := .slice ka kn kc) rfl
  generalize hW1 : (((w.alloc (.cells #[.slice ka kn kc, .int .i64 p.2] 55)).alloc (.cells #[.slice none 0 0, .int .i64 0] 55)).alloc (.cells #[.slice none 0 0, .int .i64 1] 55)) = w1 at *
  have HW1 : Hid ((((w.alloc (.cells #[.slice ka kn kc, .int .i64 p.2] 55)).alloc (.cells #[.slice none 0 0, .int .i64 0] 55)).alloc (.cells #[.slice none 0 0, .int .i64 1] 55)) = w1) := hW1
  go_enter Tryz.func99, Tryz.ntmps99
  go_wp2_with (first
    | (go_at_call 100; (try rw [HW1.out]); refine (CS _).mono ?_; rintro e w2 ⟨rfl, d2⟩; have P2 := (HP0.out.on d2).alloc (.cells #[.int .i64 2, .int .i64 sx, .int .i64 sy, .int .i64 0, .int .i64 0, .slice none 0 0, .int .i64 10, .int .i64 0, .int .i64 0, .int .i64 0, .int .i64 0, .slice none 0 0] 66); have CP := put_ps P2 (some ⟨w2.heap.size, 0, none⟩) 2 2 [ins sn 2 sx sy, ins sn 10 0 0] rfl (cr_bk2 (Bk.new w2 _ _)) (fun e => by cases e) (by simp); clear d2 P2 CS)
    | (go_at_call 56; refine CP.mono ?_; rintro e w3 ⟨rfl, h3⟩; have P3 : PS w1 w3 (w.heap.size + 1 + 1) none ([ins sn 2 sx sy, ins sn 10 0 0], 1) := h3; have HK3 := P3.bk HKX.out (by omega) (fun e => by cases e); have k0 := HK3.cell 0 (u := .slice ka kn kc) rfl; have k1 := HK3.cell 1 (u := .int .i64 p.2) rfl; have CA := add_ps P3 ka kn kc p.2 p.1 HLN.out (P3.cr HQ.out (fun x e => ⟨by have := HKA.out x e; omega, fun e => by cases e⟩)) (fun x e => ⟨by have h1 := HKA.out x e; have h2 := P3.kq.size; omega, by have := HKA.out x e; omega, far_old P3 (by have := HKA.out x e; omega) (fun e => by cases e)⟩) HFL.out.2.2 HFL.out.2.1 (by simp; omega); clear h3 CP P3 HK3)
    | (go_at_call 97; refine CA.mono ?_; rintro e w4 ⟨rfl, h4⟩; have P4 := h4.alloc (.cells #[.int .i64 11, .int .i64 0, .int .i64 ((kn : Int) + 4), .int .i64 0, .int .i64 0, .slice none 0 0, .int .i64 3, .int .i64 0, .int .i64 0, .int .i64 0, .int .i64 0, .slice none 0 0] 66); have CP2 := put_ps P4 (some ⟨w4.heap.size, 0, none⟩) 2 2 [ins sn 11 0 ((kn : Int) + 4), ins sn 3 0 0] rfl (cr_bk2 (Bk.new w4 _ _)) (fun e => by cases e) (by rw [len_addP, HLN.out]; simp; omega); clear h4 P4 CA)
    | (go_at_call 56; refine CP2.mono ?_; rintro e w5 ⟨rfl, h5⟩; rw [show ((p.1, p.2) : Pc SV) = p from rfl, ← HS.out] at h5; obtain ⟨r, hrp, hbk, hpv⟩ := h5.out HFL.out.1; have r0 := hbk.cell 0 (u := .slice r.ka r.kn r.kc) rfl; have r1 := hbk.cell 1 (u := .int .i64 (loopP sn m p).2) rfl; rw [← hrp] at r1; have HR5 : Hid (Bk w5 (w.heap.size + 1) #[.slice none 0 0, .int .i64 0] 55) := h5.bk HR.out (by omega) (fun e => by cases e); have t0 := HR5.out.cell 0 (u := .slice none 0 0) rfl; have t1 := HR5.out.cell 1 (u := .int .i64 0) rfl; have f0 := HR5.out.frozen 0; have f1 := HR5.out.frozen 1; have HPR : Hid (r.p = loopP sn m p ∧ PV w5 w1.heap.size r) := ⟨hrp, hpv⟩; have HB5 : Hid (Below w.heap.size w w5) := HBW.out.trans (h5.kq.below (by omega) (fun x s => by rcases s with s | s; omega; cases s)); clear h5 hrp hbk hpv CP2))
  refine bodyPost_ret (results_cell_row Tryz.results99 _ _ (w.heap.size + 1) _ #[.slice r.ka r.kn r.kc, .int .i64 r.p.2] _ _ rfl (HR5.out.set2 _ _) Tryz.underlying55 rfl infP) rfl ?_
  exact ⟨r, rfl, HPR.out.1, ((HPR.out.2.set (by omega) 0 _).set (by omega) 1 _).wide (by omega), (HB5.out.setCell (p := ⟨w.heap.size + 1, 0, none⟩) (by simp) _).setCell (p := ⟨w.heap.size + 1, 1, none⟩) (by simp) _⟩
end Go.Proofs.YtjbcapnpknbbaaaGreat.cmp
end
