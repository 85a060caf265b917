/- Texts that the proof leans on, one behind the other. -/
import Derived.Test.YtinlolmjafjhnaaGreatDoorBdDcp1
import Derived.Maps.OwnIn
import Derived.Test.YtinlolmjafjhnaaGreatDoorBdSrt1
import Derived.Test.YtinlolmjafjhnaaGreatDoorBdPrp7

section
/- decomp.Full: the walk. -/
set_option linter.unusedVariables false
set_option linter.unusedSimpArgs false
namespace Go.Proofs.YtinlolmjafjhnaaGreatDoor.dcp
open Go.RowKit Go.Maps Go.Shelf lin prp
attribute [local go_sem] Oper.semAt_some

/-- While the parts are laid onto the stack: w1 the world ahead of the parts, w3 that at the range. -/
structure PI (w0 w1 w3 : World) (B : Nat) (vo : Value) (out st ps : List Int) (bs : List Nat) (pre : List Elt) (W : World) : Prop where
 stk : ∃ sv, Boxed W B 37 sv ∧ IOwn W w0.heap.size sv (st ++ ps.reverse.take pre.length) ∧ (∀ k, vo.ownBlock = some k → sv.ownBlock ≠ some k) ∧ ∀ k, sv.ownBlock = some k → k < w1.heap.size ∨ w3.heap.size + 2 ≤ k
 own : IOwn W w0.heap.size vo out
 low : Below w0.heap.size w0 W
 mks : ∀ b ∈ bs, W.heap[b]? = some (.deferred (some []))
theorem PI.turns {w0 w1 w3 : World} {B : Nat} {vo : Value} {out st ps : List Int} {bs : List Nat} {pre : List Elt} {A C : World} {D : Nat → Prop} (h : PI w0 w1 w3 B vo out st ps bs pre A) (t : Turns D A C) (hd : ∀ k, D k → w1.heap.size ≤ k ∧ k < w3.heap.size + 2) (hB : B < w1.heap.size) (hv : ∀ k, vo.ownBlock = some k → k < w1.heap.size) (hb : ∀ b ∈ bs, b < w1.heap.size) (h0 : w0.heap.size ≤ w1.heap.size) : PI w0 w1 w3 B vo out st ps bs pre C where
 stk := by
  obtain ⟨sv, h1, h2, h3, h4⟩ := h.stk
  exact ⟨sv, t.boxed h1 (fun d => by have := hd _ d; omega), t.own h2 (fun k e d => by have := hd _ d; have := h4 k e; omega), h3, h4⟩
 own := t.own h.own (fun k e d => by have := hd _ d; have := hv k e; omega)
 low := h.low.trans (t.below h.low.size (fun k d => by have := hd k d; omega))
 mks := fun b m => (t.block b (Array.getElem?_eq_some_iff.1 (h.mks b m)).1 (fun d => by have := hd _ d; have := hb b m; omega)).trans (h.mks b m)

set_option maxRecDepth 1000000 in
set_option maxHeartbeats 4000000 in
theorem full_t (t : Nat) (r : Int) (w : World) (h : Tabs w t) (hr : okI r) : Calls Tryz.prog 96 #[.pointer (some ⟨t, 0, none⟩), .int .i64 r] w fun e w' => ∃ v, e = .returned v ∧ IOwn w' w.heap.size v (fullL r) ∧ Below w.heap.size w w' := by
 obtain ⟨i0, hi, hz0, hy1, hz2⟩ := info_parts infoInt
 refine callsIn_wide (n := 9) |>.1 ?_
 refine callsIn_of_wp_marks Tryz.func96 rfl trivial ?_ rfl
 simp only [Tryz.ntmps96, List.size_toArray, List.length_cons, List.length_nil, Nat.reduceAdd, Nat.reduceSub, Array.replicate_succ, Array.replicate_zero, List.push_toArray, List.append_toArray, List.nil_append, List.cons_append]
 refine wpIn_wide.2 ?_
 have CM := made_t t w h
 have HT : Hid (Tabs w t) := h
 clear h
 go_wp2
 refine scope_label 0 (FJ w t r) rfl ?pass ?first
 case first =>
  intro PASS
  go_wp2_with fail
  refine CM.mono ?_
  rintro e w1 ⟨rfl, b1⟩
  clear CM
  have b1s := b1.size
  go_wp2
  refine wp_label ?_
  rename_i hK
  refine hK _ _ ?_
  refine PASS (nd r) _ _ ?_
  refine ⟨w1.heap.size + 1, _, _, _, _, _, _, _, _, _, _, _, _, _, _, _, _, _, _, _, _, _, _, _, _, _, _, _, _, _, _, _, _, _, _, _, _, _, _, _, _, _, _, .slice none 0 0, .slice (some ⟨w1.heap.size, 0, none⟩) 1 1, [], [r], [], rfl, ?_⟩
  have bA := (Below.refl w1.heap.size w1).alloc (Nat.le_refl _) (.cells #[.int .i64 r] 3)
  exact {
   box := by have := World.alloc_heap_new (w1.alloc (.cells #[.int .i64 r] 3)) (.cells #[.slice (some ⟨w1.heap.size, 0, none⟩) 1 1] 37); rw [World.size_alloc] at this; exact this
   own := World.ownsRow_nil _ _ _ _
   stk := own_below (World.ownsRow_lit (base := w.heap.size) (e := 3) (size := 1) w1 #[.int .i64 r] 1 b1s (by unfold maxLen; omega) rfl) ((Below.refl _ _).alloc (Nat.le_refl _) _)
   two := fun k e => by cases e
   low := (b1.alloc b1s _).alloc (by simp; omega) _
   old := by omega
   pur := stk_start r
   msr := by simp
   oks := fun x hx => by simp at hx; subst hx; exact hr
   nod := List.nodup_nil
   mks := fun b hb => by simp at hb }
 case pass =>
  clear CM
  intro g a W hJ
  obtain ⟨B, u7, u8, u9, u10, u11, u12, u13, u14, u15, u16, u17, u18, u19, u20, u21, u22, u23, u24, u25, u26, u27, u28, u29, u30, u31, u32, u33, u34, u35, u36, u37, u38, u39, u40, u41, u42, u43, u44, u45, u46, u47, u48, vo, sv, out, st, bs, rfl, hF⟩ := hJ
  have HF : Hid (FS w B r g vo sv out st bs W) := hF
  have cB := hF.box.cell
  have fB := hF.box.frozen
  by_cases hst : st = []
  ·subst hst
   obtain ⟨sa, sc, rfl⟩ := own_slice hF.stk
   obtain ⟨va, vc, rfl⟩ := own_slice hF.own
   have ho := stk_end hF.pur
   subst ho
   have HE : Hid (∀ w', Turns (fun k => k ∈ bs) W w' → IOwn w' w.heap.size (.slice va (fullL r).length vc) (fullL r) ∧ Below w.heap.size w w') := fun w' tr => by
    refine ⟨tr.own HF.out.own (fun k e hk => row_mark HF.out.own (HF.out.mks k hk).2 e), HF.out.low.trans (tr.below HF.out.low.size (fun k hk => (HF.out.mks k hk).1))⟩
   clear hF
   simp only [List.length_nil] at *
   generalize (fullL r).length = fl at *
   go_wp2
   show LeavesInM Fence.wide 9 _ _ _ _ (bs.map mk) .returning W
   refine leave_marks bs W HF.out.nod (fun b hb => (HF.out.mks b hb).2) (fun w' tr => ?_)
   exact ⟨_, results_tmp (t := 4) rfl _ _ _, _, rfl, HE.out w' tr⟩
  ·obtain ⟨st', top, hse⟩ : ∃ st' top, st = st' ++ [top] := ⟨st.dropLast, st.getLast hst, (List.dropLast_concat_getLast hst).symm⟩
   subst hse
   obtain ⟨n, hn⟩ : ∃ n, st'.length = n := ⟨_, rfl⟩
   have hlen : (st' ++ [top]).length = n + 1 := by simp; omega
   obtain ⟨gb, cap, hsv, hgb, hcap⟩ : ∃ gb cap, sv = .slice (some ⟨gb, 0, none⟩) (n + 1) cap ∧ n + 1 ≤ cap ∧ cap ≤ maxLen := by
    rcases hF.stk.2 with ⟨_, h0⟩ | ⟨gb, cap, cur, hsv, hg, hgg, hc, hm, _⟩
    ·omega
    ·exact ⟨gb, cap, by rw [hsv, hlen], by omega, hm⟩
   subst hsv
   have ctop := iown_top hF.stk hn
   have pop := iown_pop hF.stk hn
   have hBg : ∀ (v : Value) (xs : List Int), IOwn W w.heap.size v xs → some B ≠ v.ownBlock := fun v xs h => hF.box.not_row (by decide) h
   obtain ⟨W1, hW1⟩ : ∃ W1, W1 = W.setCell ⟨B, 0, none⟩ (.slice (some ⟨gb, 0, none⟩) n cap) := ⟨_, rfl⟩
   have t1 : Turns (fun k => k = B) W W1 := by rw [hW1]; exact Turns.set (D := fun k => k = B) (Turns.refl _ W) B _ rfl
   have box1 : Boxed W1 B 37 (.slice (some ⟨gb, 0, none⟩) n cap) := by rw [hW1]; exact hF.box.set _
   have stk1 : IOwn W1 w.heap.size (.slice (some ⟨gb, 0, none⟩) n cap) st' := t1.own pop (fun k e d => hBg _ _ pop (by rw [e, d]))
   have own1 : IOwn W1 w.heap.size vo out := t1.own hF.own (fun k e d => hBg _ _ hF.own (by rw [e, d]))
   have low1 : Below w.heap.size w W1 := hF.low.trans (t1.below hF.low.size (fun k d => by rw [d]; exact hF.old))
   have mks1 : ∀ b ∈ bs, W1.heap[b]? = some (.deferred (some [])) := fun b hb => (t1.block b (Array.getElem?_eq_some_iff.1 (hF.mks b hb).2).1 (fun d => by have := (hF.mks b hb).2; rw [d, show W.heap[B]? = _ from hF.box] at this; cases this)).trans (hF.mks b hb).2
   have C := parts_any t top W1 (HT.out.below low1) (hF.oks top (by simp))
   have b1w : w.heap.size ≤ W1.heap.size := low1.size
   have HPU : Hid (Stk r out (st' ++ [top])) := hF.pur
   have HOK : Hid (∀ x ∈ st', okI x) := fun x hx => hF.oks x (by simp [hx])
   have HTW : Hid (∀ k, vo.ownBlock = some k → (Value.slice (some ⟨gb, 0, none⟩) n cap).ownBlock ≠ some k) := hF.two
   have HMS : Hid (((st' ++ [top]).map nd).sum = g) := hF.msr
   have HBX : Hid (Boxed W1 B 37 (.slice (some ⟨gb, 0, none⟩) n cap)) := box1
   have HST : Hid (IOwn W1 w.heap.size (.slice (some ⟨gb, 0, none⟩) n cap) st') := stk1
   have HOW : Hid (IOwn W1 w.heap.size vo out) := own1
   have HLW : Hid (Below w.heap.size w W1) := low1
   have HMK : Hid (∀ b ∈ bs, W1.heap[b]? = some (.deferred (some []))) := mks1
   have HML : Hid (∀ b ∈ bs, w.heap.size ≤ b) := fun b hb => (hF.mks b hb).1
   have HSL : Hid (st'.length = n) := hn
   have hol := stk_len hF.pur
   have hn13 : n ≤ 13 := by rw [hlen] at hol; omega
   have holen : out.length ≤ 13 := hol.1
   have hBold := hF.old
   have hB1 := box1.lt
   have hnod := hF.nod
   have HND : Hid bs.Nodup := hnod
   rw [hW1] at C
   obtain ⟨va, vc, rfl⟩ := own_slice own1
   have k1 : (((n + 1 : Nat) : Int) == 0) = false := beq_eq_false_iff_ne.2 (by omega)
   have k2 : ((n : Int) + 1 == 0) = false := beq_eq_false_iff_ne.2 (by omega)
   have k3 : IntKind.i64.wrap (n : Int) = (n : Int) := by rw [IntKind.wrap_i64]; omega
   have k4 : (n : Int) < (n : Int) + 1 := by omega
   have k5 : (0 : Int) ≤ (n : Int) := by omega
   have k6 : (n : Int) ≤ (cap : Int) := by omega
   clear hF t1 box1 stk1 own1 low1 mks1 pop hn hlen hol hBg hnod
   go_wp2_with fail
   refine C.mono ?_
   rintro e w2 ⟨v2, rfl, hv2, b2⟩
   rw [← hW1] at hv2 b2
   clear C hW1
   have box2 : Boxed w2 B 37 (.slice (some ⟨gb, 0, none⟩) n cap) := (b2.block _ hB1).trans HBX.out
   have HB2 : Hid (Below W1.heap.size W1 w2) := b2
   have hs2 := b2.size
   by_cases hd : dp top = []
   ·obtain ⟨a2, c2, rfl, _⟩ := hv2
    have HPN := stk_leaf HPU.out hd
    rw [hd]
    have own2 := own_below HOW.out b2
    have HO2 : Hid (w2.ownsRow w.heap.size 3 1 (.slice va out.length vc) out.length (out.map (Value.int .i64))) := own2
    have HBL : Hid (∀ k, (Value.slice va out.length vc).ownBlock = some k → k < w2.heap.size) := fun k e => (own2.lt k e).2
    have HNR : Hid (some B ≠ (Value.slice va out.length vc).ownBlock) := box2.not_row (by decide) own2
    clear b2 own2 cB fB hd
    simp only [List.length_nil]
    generalize hol : out.length = ol at *
    go_wp2_with (at_builtin; refine wpList_append_own_at _ rfl _ _ 37 rfl w.heap.size 3 i0 (.int .i64 0) 1 8 Tryz.underlying37 hi hz0 hy1 hz2 rfl (by decide) _ _ _ rfl (HO2.out.alloc _) ⟨w2.heap.size, 0, none⟩ 1 1 [.int .i64 top] rfl rfl (cell_one_new _ _ _) ?c2 ?c3 ?c4 ?c5 ?_)
    case c2 => first | (intro u hu; simp at hu; subst hu; rfl) | simp [Value.oneCell']
    case c3 => unfold maxLen; omega
    case c4 => omega
    case c5 => first | omega | (simp; omega)
    intro v5 w5 hown5 hgrow5 _ hat5
    have t5 : Turns (fun k => (Value.slice va ol vc).ownBlock = some k) w2 w5 := ((Turns.refl _ w2).alloc _).trans (.of_grown hgrow5 (fun k e => e))
    have st2 := own_below HST.out HB2.out
    have FN : FS w B r ((st'.map nd).sum) v5 (.slice (some ⟨gb, 0, none⟩) n cap) (out ++ [top]) st' bs w5 := {
     box := t5.boxed box2 (fun d => HNR.out d.symm)
     own := by
      unfold IOwn
      rw [List.map_append, List.length_append, List.length_singleton, hol]
      exact hown5
     stk := t5.own st2 (fun k e d => HTW.out k d e)
     two := fun k e => by
      rcases hat5 with h5 | h5
      ·rw [h5] at e; exact HTW.out k e
      ·rw [h5] at e
       intro e2
       have h6 := (st2.lt k e2).2
       cases e
       omega
     low := (HLW.out.trans (HB2.out.mono b1w)).trans (t5.below (by omega) (fun k d => (HO2.out.lt k d).1))
     old := hBold
     pur := HPN.1
     msr := rfl
     oks := HOK.out
     nod := HND.out
     mks := fun b hb => ⟨HML.out b hb, by
      have hm2 := (HB2.out.block b (Array.getElem?_eq_some_iff.1 (HMK.out b hb)).1).trans (HMK.out b hb)
      refine (t5.block b (Array.getElem?_eq_some_iff.1 hm2).1 (fun d => ?_)).trans hm2
      have : IOwn w2 w.heap.size (.slice va ol vc) out := by unfold IOwn; rw [hol]; exact HO2.out
      exact row_mark this hm2 d⟩ }
    have HFN : Hid _ := FN
    have HLT : Hid ((st'.map nd).sum < g) := by rw [← HMS.out]; exact HPN.2
    clear FN hown5 hgrow5 hat5 t5 st2 HPN box2
    go_wp2
    refine wp_goto ?_
    exact ⟨rfl, _, HLT.out, B, _, _, _, _, _, _, _, _, _, _, _, _, _, _, _, _, _, _, _, _, _, _, _, _, _, _, _, _, _, _, _, _, _, _, _, _, _, _, _, _, _, _, v5, _, _, _, bs, rfl, HFN.out⟩
   ·obtain ⟨a2, c2, rfl, hcl⟩ := hv2
    have hpos : 0 < (dp top).length := by cases h : dp top with | nil => exact absurd h hd | cons => simp
    obtain ⟨pb, po, rfl, hpb, hpc⟩ := hcl hpos
    have HPN := stk_node HPU.out hd
    obtain ⟨vs, hvs⟩ : ∃ vs, vs = (dp top).map (Value.int .i64) := ⟨_, rfl⟩
    have hvl : vs.length = (dp top).length := by rw [hvs, List.length_map]
    have hp3 := dp_len top
    have hsl : ∀ v ∈ vs, ∃ q, v = .int .i64 q := fun v hv => by rw [hvs] at hv; obtain ⟨q, _, rfl⟩ := List.mem_map.1 hv; exact ⟨q, rfl⟩
    have hcv : ∀ i (h : i < vs.length), w2.cell? ⟨pb, po + i, none⟩ = some vs[i] := fun i h => by
     rw [hpc i (by omega)]
     have h1 : i < (dp top).length := by omega
     subst hvs
     rw [List.getElem_map, List.getD_eq_getElem?_getD, List.getElem?_eq_getElem h1]
     rfl
    have HVS : Hid (vs = (dp top).map (Value.int .i64)) := hvs
    have HCV : Hid (∀ i (h : i < vs.length), w2.cell? ⟨pb, po + i, none⟩ = some vs[i]) := hcv
    rw [← hvl] at hpos hp3 ⊢
    have HVL : Hid (vs.length = (dp top).length) := hvl
    have hpne : ((vs.length : Int) == 0) = false := beq_eq_false_iff_ne.2 (by omega)
    clear hcl hpc hvs hcv hvl b2 cB fB hd
    go_wp2_with fail
    refine (Backward_any _ _ _ _).mono ?_
    rintro e w3 ⟨rfl, hw3⟩
    have z3 : w3.heap.size = w2.heap.size + 1 := by rw [hw3]; simp
    have bel3 : Below w2.heap.size w2 w3 := by rw [hw3]; exact (Below.refl _ _).alloc (Nat.le_refl _) _
    have nb : w3.heap[w2.heap.size]? = some (.cells #[.slice (some ⟨pb, po, none⟩) vs.length c2] 37 (0, 0)) := by rw [hw3]; exact World.alloc_heap_new _ _
    clear hw3
    have hrev : Rev w3 w2.heap.size pb po c2 vs := ⟨nb, fun i h => (bel3.cell (p := ⟨pb, po + i, none⟩) (World.block_lt_of_cell? w2 _ (HCV.out i h))).trans (HCV.out i h)⟩
    go_wp2
    have hvo : ∀ k, (Value.slice va out.length vc).ownBlock = some k → k < W1.heap.size := fun k e => (HOW.out.lt k e).2
    have hbs : ∀ b ∈ bs, b < W1.heap.size := fun b hb => (Array.getElem?_eq_some_iff.1 (HMK.out b hb)).1
    have bel13 : Below W1.heap.size W1 w3 := HB2.out.trans (bel3.mono hs2)
    have hI0 : PI w W1 w3 B (.slice va out.length vc) out st' (dp top) bs [] w3 := {
     stk := ⟨_, (bel3.block _ (by omega)).trans box2, by rw [show (dp top).reverse.take ([] : List Elt).length = [] from rfl, List.append_nil]; exact own_below HST.out bel13, HTW.out, fun k e => .inl ((HST.out.lt k e).2)⟩
     own := own_below HOW.out bel13
     low := HLW.out.trans (bel13.mono b1w)
     mks := fun b hb => (bel13.block b (hbs b hb)).trans (HMK.out b hb) }
    refine wpIn_wide (n := 9) |>.1 ?_
    refine range_own (c := w2.heap.size) (lo := W1.heap.size) rfl (enters_of Tryz.func174 (by kernel_rfl) rfl) (by omega) (by omega) (back_gives _ w2.heap.size pb po c2 W1.heap.size vs w3 (by omega) hrev (by omega) hpb hsl) (fun _ => rfl)
     (fun pre W => PI w W1 w3 B (.slice va out.length vc) out st' (dp top) bs pre W ∧ w3.heap.size ≤ W.heap.size) (fun _ _ => False) (fun _ A C h tr => ⟨h.1.turns tr (fun k d => by omega) hB1 hvo hbs b1w, Nat.le_trans h.2 tr.size⟩) (fun _ A B h t => h)
     ⟨hI0, Nat.le_refl _⟩
     (fun x => { tmps := #[.pointer (some ⟨t, 0, none⟩), .int .i64 r, undef, undef, .slice none 0 0, .slice va out.length vc, .pointer (some ⟨B, 0, none⟩), .int .i64 top, .slice (some ⟨pb, po, none⟩) vs.length c2, u9, x.2, u11, u12, u13, u14, u15, .slice (some ⟨gb, 0, none⟩) (n + 1) cap, .int .i64 ((n : Int) + 1), .bool false, u19, .slice (some ⟨gb, 0, none⟩) (n + 1) cap, .slice (some ⟨gb, 0, none⟩) (n + 1) cap, .int .i64 ((n : Int) + 1), .int .i64 (n : Int), .pointer (some ⟨gb, n, none⟩), .int .i64 top, .slice (some ⟨gb, 0, none⟩) (n + 1) cap, .slice (some ⟨gb, 0, none⟩) (n + 1) cap, .int .i64 ((n : Int) + 1), .int .i64 (n : Int), .slice (some ⟨gb, 0, none⟩) n cap, .pointer (some ⟨t, 0, none⟩), .int .i64 top, .slice (some ⟨pb, po, none⟩) vs.length c2, .slice (some ⟨pb, po, none⟩) vs.length c2, .int .i64 (vs.length : Int), .bool false, u37, u38, u39, u40, .slice (some ⟨pb, po, none⟩) vs.length c2, .func (.func 174) #[] #[.pointer (some ⟨w2.heap.size, 0, none⟩)], .int .i64 (x.1 : Int), x.2, u45, u46, u47, u48], defers := [] }) ?assign ?body ?done ?stop
    case assign =>
     intro l x W K hK
     simp only [encB] at hK ⊢
     gi_wp2
     exact hK
    case body =>
     intro l pre x rest W hx hI hge
     obtain ⟨hI, hsz⟩ := hI
     obtain ⟨hi1, hi2⟩ := backs_at vs hx
     obtain ⟨xi, xv⟩ := x
     simp only at hi1 hi2
     obtain ⟨q, rfl⟩ := hsl xv (List.mem_of_getElem? hi2)
     obtain ⟨sv, sbx, sow, stw, spl⟩ := hI.stk
     have HNX : Hid (st' ++ (dp top).reverse.take (pre.length + 1) = (st' ++ (dp top).reverse.take pre.length) ++ [q]) := by
      have hl := HVL.out
      have e1 : (dp top).reverse[pre.length]? = some q := by
       rw [List.getElem?_reverse (by omega), show (dp top).length - 1 - pre.length = xi by omega]
       rw [HVS.out, List.getElem?_map] at hi2
       cases h : (dp top)[xi]? with
       | none => rw [h] at hi2; simp at hi2
       | some y => rw [h] at hi2; simp at hi2; rw [hi2]
      show _ = _
      rw [List.take_add_one, e1, List.append_assoc]
      rfl
     have HOWS : Hid (∀ k, sv.ownBlock = some k → w.heap.size ≤ k ∧ (k < W1.heap.size ∨ w3.heap.size + 2 ≤ k)) := fun k e => ⟨(sow.lt k e).1, spl k e⟩
     have HNB : Hid (some B ≠ sv.ownBlock) := sbx.not_row (by decide) sow
     have HTWO : Hid (∀ k, (Value.slice va out.length vc).ownBlock = some k → sv.ownBlock ≠ some k) := stw
     have HBV : Hid (Boxed W B 37 sv) := sbx
     have HIO : Hid (IOwn W w.heap.size (.slice va out.length vc) out ∧ Below w.heap.size w W ∧ ∀ b ∈ bs, W.heap[b]? = some (.deferred (some []))) := ⟨hI.own, hI.low, hI.mks⟩
     have HMR : Hid (∀ b ∈ bs, sv.ownBlock ≠ some b) := fun b hb => row_mark sow (hI.mks b hb)
     obtain ⟨LS, hLS⟩ : ∃ LS, LS = st' ++ (dp top).reverse.take pre.length := ⟨_, rfl⟩
     rw [← hLS] at sow HNX
     have hlsl : LS.length ≤ 16 := by rw [hLS, List.length_append, List.length_take, HSL.out]; omega
     have HO : Hid (W.ownsRow w.heap.size 3 1 sv LS.length (LS.map (Value.int .i64))) := sow
     obtain ⟨sa, sc, rfl⟩ := own_slice sow
     have cv := sbx.cell
     have hlowz := hI.low.size
     generalize hm : LS.length = m at *
     have HM : Hid (LS.length = m) := hm
     clear sow sbx stw spl hI hLS hx hi1 hi2 hm
     gi_wp2_with (gi_at_builtin; refine wpListIn_append_own_at _ rfl _ _ 37 rfl w.heap.size 3 i0 (.int .i64 0) 1 8 Tryz.underlying37 hi hz0 hy1 hz2 rfl (by decide) _ _ _ rfl (HO.out.alloc _) ⟨W.heap.size, 0, none⟩ 1 1 [.int .i64 q] rfl rfl (cell_one_new _ _ _) (by simp [Value.oneCell']) (by unfold maxLen; omega) (by omega) (by simp; omega) ?_)
     intro v' w4 hown4 hgrow _ hat4
     obtain ⟨va', vc', rfl⟩ := own_slice hown4
     have v4 : Boxed w4 B 37 (.slice sa m sc) := (HBV.out.alloc _).kept hgrow HNB.out
     have HR : Hid (Keep W1.heap.size (w3.heap.size + 2) W (w4.setCell ⟨B, 0, none⟩ (.slice va' (m + 1) vc')) ∧ PI w W1 w3 B (.slice va out.length vc) out st' (dp top) bs (pre ++ [(xi, .int .i64 q)]) (w4.setCell ⟨B, 0, none⟩ (.slice va' (m + 1) vc')) ∧ w3.heap.size ≤ (w4.setCell ⟨B, 0, none⟩ (.slice va' (m + 1) vc')).heap.size) := by
      have tA : Turns (fun k => k = B ∨ (Value.slice sa m sc).ownBlock = some k) W (w4.setCell ⟨B, 0, none⟩ (.slice va' (m + 1) vc')) :=
       (((Turns.refl _ W).alloc _).trans (.of_grown hgrow (fun k e => .inr e))).set B _ (.inl rfl)
      have tS : Turns (fun k => k = B) w4 (w4.setCell ⟨B, 0, none⟩ (.slice va' (m + 1) vc')) := Turns.set (D := fun k => k = B) (Turns.refl _ w4) B _ rfl
      have hown5 : IOwn w4 w.heap.size (.slice va' (m + 1) vc') (LS ++ [q]) := by
       unfold IOwn
       rw [List.length_append, List.length_singleton, List.map_append, HM.out]
       exact hown4
      refine ⟨tA.keep hge (fun k h => by rcases h with h | h; exact .inl (by omega); have := (HOWS.out k h).2; omega), ⟨⟨_, v4.set _, ?_, ?_, ?_⟩, ?_, ?_, ?_⟩, Nat.le_trans hsz tA.size⟩
      ·rw [List.length_append, List.length_singleton, HNX.out]
       exact tS.own hown5 (fun k e d => by
        have := v4.not_row (by decide) hown5
        exact this (by rw [e, d]))
      ·intro k e e2
       rcases hat4 with h5 | h5
       ·rw [h5] at e2; exact HTWO.out k e e2
       ·rw [h5] at e2
        have h6 := hvo k e
        cases e2
        first | omega | (simp at h6; omega)
      ·intro k e
       rcases hat4 with h5 | h5
       ·rw [h5] at e; exact (HOWS.out k e).2
       ·rw [h5] at e
        cases e
        first | omega | (simp; omega)
      ·exact tA.own HIO.out.1 (fun k e d => by
        rcases d with d | d
        ·exact (HBV.out.not_row (by decide) HIO.out.1) (by rw [e, d])
        ·exact HTWO.out k e d)
      ·exact HIO.out.2.1.trans (tA.below hlowz (fun k d => by rcases d with d | d; omega; exact (HOWS.out k d).1))
      ·intro b hb
       refine (tA.block b (Array.getElem?_eq_some_iff.1 (HIO.out.2.2 b hb)).1 (fun d => ?_)).trans (HIO.out.2.2 b hb)
       rcases d with d | d
       ·have := HIO.out.2.2 b hb
        rw [d, show W.heap[B]? = _ from HBV.out] at this
        cases this
       ·exact HMR.out b hb d
     have c4 := v4.cell
     have f4 := v4.frozen
     clear hgrow hown4 v4 hat4
     gi_wp2
     exact HR.out
    case done =>
     intro W hI hdf
     obtain ⟨hI, hsz⟩ := hI
     obtain ⟨sv, sbx, sow, stw, spl⟩ := hI.stk
     have HFN : Hid (FS w B r (((st' ++ (dp top).reverse).map nd).sum) (.slice va out.length vc) sv out (st' ++ (dp top).reverse) (w3.heap.size :: bs) W) := {
      box := sbx
      own := hI.own
      stk := by
       rw [backs_len, HVL.out, List.take_of_length_le (by simp)] at sow
       exact sow
      two := stw
      low := hI.low
      old := hBold
      pur := HPN.1
      msr := rfl
      oks := fun x hx => by
       rcases List.mem_append.1 hx with hx | hx
       ·exact HOK.out x hx
       ·exact dp_ok top x (List.mem_reverse.1 hx)
      nod := List.nodup_cons.2 ⟨fun hb => by have := hbs _ hb; omega, HND.out⟩
      mks := fun b hb => by
       rcases List.mem_cons.1 hb with rfl | hb
       ·exact ⟨by omega, hdf⟩
       ·exact ⟨HML.out b hb, hI.mks b hb⟩ }
     have HLT : Hid (((st' ++ (dp top).reverse).map nd).sum < g) := by rw [← HMS.out]; exact HPN.2
     clear hI sbx sow stw spl
     go_wp2
     refine wp_goto ?_
     exact ⟨rfl, _, HLT.out, B, _, _, _, _, _, _, _, _, _, _, _, _, _, _, _, _, _, _, _, _, _, _, _, _, _, _, _, _, _, _, _, _, _, _, _, _, _, _, _, _, _, _, _, sv, _, _, w3.heap.size :: bs, rfl, HFN.out⟩
    case stop =>
     intro pre W hI hd
     exact hI.elim
end Go.Proofs.YtinlolmjafjhnaaGreatDoor.dcp
end

section
/- decomp.candidates: the code points of the file's records. -/
set_option linter.unusedVariables false
set_option linter.unusedSimpArgs false
namespace Go.Proofs.YtinlolmjafjhnaaGreatDoor.dcp
open Go.RowKit Go.Maps Go.Sort lin prp

/-- The code points with parts. -/
def candL : List Int := decL.map (·.1)
theorem cand_rise : candL.Pairwise (fun a b => a < b) := by decide +kernel
theorem cand_compact : Lib.compact candL = candL := by decide +kernel
theorem cand_sort : candL.mergeSort (fun x y => decide (x ≤ y)) = candL := by
 refine List.Perm.eq_of_pairwise (le := fun a b => decide (a ≤ b) = true) (fun a b _ _ h1 h2 => ?_) (List.pairwise_mergeSort (fun a b c h1 h2 => ?_) (fun a b => ?_) _) (cand_rise.imp fun {a b} h => ?_) (List.mergeSort_perm _ _)
 ·simp at h1 h2; omega
 ·simp at *; omega
 ·simp; omega
 ·simp; omega
theorem cand_n : candL.length = decL.length := by unfold candL; rw [List.length_map]
theorem cand_take {k : Nat} {x : RL} (h : decL[k]? = some x) : candL.take (k + 1) = candL.take k ++ [x.1] := by unfold candL; rw [List.take_add_one, List.getElem?_map, h]; rfl
theorem below_grow {w : World} (n : Nat) (os : Array Obj) : Below w.heap.size w (grow (Sort.ahead w n) os) := ⟨rfl, rfl, rfl, by rw [size_grow]; exact Nat.le_add_right _ _, fun k hk => by rw [heap_grow_old _ _ (by exact hk)]; rfl⟩
set_option maxHeartbeats 2000000 in
set_option maxRecDepth 1000000 in
theorem cand_any (w : World) (E : Env w) : Calls Tryz.prog 129 #[] w fun e w' => ∃ v, e = .returned v ∧ IV w' v candL ∧ Below w.heap.size w w' := by
 obtain ⟨i0, hi, hz0, hy1, hz2⟩ := info_parts infoInt
 obtain ⟨m, hm⟩ := E.ml
 have HA := dec_any w
 have PA := parse_any decB w m (Nat.le_trans dec_size (by decide)) hm (World.block_lt_of_cell? w _ hm)
 rw [dec_parse] at PA
 generalize decB = X at *
 clear hm
 go_enter Tryz.func129, Tryz.ntmps129
 go_wp2_with fail
 refine HA.mono ?_
 rintro e w1 ⟨rfl, hw⟩
 rw [hw]
 clear HA hw w1
 go_wp2_with fail
 refine PA.mono ?_
 rintro e w1 ⟨v, rfl, hr, hb⟩
 obtain ⟨rb, ro, rc, rfl, hrec⟩ := view_recs hr.seen dec_ok.1
 have HREC : Hid (∀ (i : Nat) (r : RL), decL[i]? = some r → ∃ g o2 c2, RecM w1 rb (ro + i * 3) r g o2 c2) := hrec
 have HN : Hid (∀ k, k < decL.length → ∃ x, decL[k]? = some x ∧ x.1 = x.2.1 ∧ 0 ≤ x.1 ∧ x.1 ≤ 1114111) := fun k hk => ⟨_, List.getElem?_eq_getElem hk, dec_one _ (List.getElem_mem hk), (show ∀ x ∈ decL, 0 ≤ x.1 ∧ x.1 ≤ 1114111 by decide +kernel) _ (List.getElem_mem hk)⟩
 have HTK : Hid (∀ (k : Nat) (x : RL), decL[k]? = some x → candL.take (k + 1) = candL.take k ++ [x.1]) := fun k x h => cand_take h
 have HTL : Hid (∀ k, (candL.take k).length ≤ 1000) := fun k => by have := dec_ok.2.1; rw [List.length_take, cand_n]; omega
 have HB1 : Hid (Below w.heap.size w w1) := hb
 have hn1 : decL.length ≤ 1000 := dec_ok.2.1
 have hn0 : 0 < decL.length := dec_n.1
 have HCN : Hid (candL.length = decL.length) := cand_n
 clear PA hr hrec hb
 generalize decL.length = n at *
 go_wp2
 go_loopw [4, 16] (fun v i wr => ∃ k : Nat, k ≤ n ∧ i = .int .i64 k ∧ Hid (IOwn wr w1.heap.size v (candL.take k)) ∧ Hid (Below w1.heap.size w1 wr)) (fun _ i _ => n - (RowKit.intOf i).toNat)
 case atStart => exact ⟨0, Nat.zero_le _, rfl, World.ownsRow_nil _ _ _ _, Below.refl _ _⟩
 case round =>
  obtain ⟨k, hk, rfl, HO, HB⟩ := hrel
  by_cases hlt : k < n
  ·have hlt' : (k : Int) < (n : Int) := by omega
   obtain ⟨x, hx, hx1, hx2, hx3⟩ := HN.out k hlt
   obtain ⟨fg, fo, fc, hrm0⟩ := HREC.out k x hx
   have hrm := hrm0.below HB.out
   have q0 := hrm.lo
   have q1 := hrm.hi
   have q2 := hrm.fv
   have HK := HTK.out k x hx
   have HLT := HTL.out k
   obtain ⟨ya, yc, rfl⟩ := own_slice HO.out
   obtain ⟨lo, hi', fs⟩ := x
   simp only at q0 q1 q2 hx1 hx2 hx3 HK
   subst hx1
   have HKK : Hid (candL.take (k + 1) = candL.take k ++ [lo]) := HK
   have hsz : w1.heap.size ≤ wr.heap.size := HB.out.size
   clear hrm hrm0 hx HK
   generalize hTL : (candL.take k).length = tl at *
   generalize fs.length = n3 at *
   have HO1 : Hid (((wr.alloc (.cells #[.int .i64 lo, .int .i64 lo, .slice (some ⟨fg, fo, none⟩) n3 fc] 98))).ownsRow w1.heap.size 3 1 (.slice ya tl yc) tl ((candL.take k).map (Value.int .i64))) := by
    have := own_below HO.out ((Below.refl _ wr).alloc (Nat.le_refl _) (.cells #[.int .i64 lo, .int .i64 lo, .slice (some ⟨fg, fo, none⟩) n3 fc] 98))
    rw [hTL] at this
    exact this
   have wlo : IntKind.i64.wrap (lo + 1) = lo + 1 := by rw [IntKind.wrap_i64]; omega
   go_wp2
   refine wp_loop_rounds 2 ?_
   rw [rounds_succ]
   go_wp2_with (at_builtin; refine wpList_append_own _ rfl _ _ 37 rfl w1.heap.size 3 i0 (.int .i64 0) 1 8 Tryz.underlying37 hi hz0 hy1 hz2 rfl (by decide) _ _ _ rfl (HO1.out.alloc _) ⟨wr.heap.size + 1, 0, none⟩ 1 1 [.int .i64 lo] rfl rfl ?c1 ?c2 ?c3 ?c4 ?c5 ?_)
   try (case c1 => first | exact cell_one_new _ _ _ | (have := cell_one_new (wr.alloc (.cells #[.int .i64 lo, .int .i64 lo, .slice (some ⟨fg, fo, none⟩) n3 fc] 98)) (.int .i64 lo) 3; simpa using this))
   case c2 => first | (intro u hu; simp at hu; subst hu; rfl) | simp [Value.oneCell']
   case c3 => unfold maxLen; omega
   case c4 => omega
   case c5 => first | omega | (simp; omega)
   intro v' w4 hown4 hgrow _
   have hneq : (Value.slice ya tl yc).ownBlock ≠ some wr.heap.size := fun e => by have := (HO.out.lt _ e).2; omega
   have hrc : w4.heap[wr.heap.size]? = some (.cells #[.int .i64 lo, .int .i64 lo, .slice (some ⟨fg, fo, none⟩) n3 fc] 98 (0, 0)) := by
    have h0 : ((wr.alloc (.cells #[.int .i64 lo, .int .i64 lo, .slice (some ⟨fg, fo, none⟩) n3 fc] 98)).alloc (.cells #[.int .i64 lo] 3)).heap[wr.heap.size]? = some (.cells #[.int .i64 lo, .int .i64 lo, .slice (some ⟨fg, fo, none⟩) n3 fc] 98 (0, 0)) := by
     rw [Below.heap_alloc _ _ _ (by simp)]; exact World.alloc_heap_new _ _
    exact (hgrow.block _ (by simp; omega) (fun e => hneq e.symm)).trans h0
   have c4 := cell_of_row w4 wr.heap.size 1 _ _ _ hrc
   simp at c4
   have R2 : Hid (Below w1.heap.size w1 w4) := Below.grown ((HB.out.alloc hsz _).alloc (by simp; omega) _) hgrow (by simp; omega) (fun k e => (HO1.out.lt k e).1)
   have R1 : Hid (IOwn w4 w1.heap.size v' (candL.take (k + 1))) := by
    show IOwn _ _ _ _
    unfold IOwn
    rw [HKK.out, List.length_append, List.length_singleton, List.map_append, hTL]
    simpa using hown4
   obtain ⟨xa, xc, rfl⟩ := own_slice hown4
   have hnlt : ¬ lo + 1 ≤ lo := by omega
   clear hown4 hgrow HO1 hrc HO HB
   go_wp2
   rw [rounds_succ]
   go_wp2
   go_roundw
   case rel => exact ⟨k + 1, by omega, by go_num, R1, R2⟩
   case measure => simp [RowKit.intOf]; omega
  ·obtain rfl : k = n := by omega
   have hlt' : ¬ (k : Int) < (k : Int) := by omega
   obtain ⟨ya, yc, rfl⟩ := own_slice HO.out
   have ho := HO.out
   have hkk : (candL.take k).length = k := by rw [List.length_take, HCN.out]; omega
   have hck : candL.take k = candL := by rw [← HCN.out, List.take_length]
   rw [hkk] at ho ⊢
   rw [hck] at ho
   obtain ⟨g, rfl, hcap, hgl, hH⟩ : ∃ g, ya = some ⟨g, 0, none⟩ ∧ k ≤ yc ∧ (w1.heap.size ≤ g ∧ g < wr.heap.size) ∧ Holds (Value.int .i64) wr g 0 candL.toArray := by
    have ho' : wr.ownsRow w1.heap.size 3 1 (.slice ya k yc) candL.length (candL.map (Value.int .i64)) := ho
    rcases ho'.2 with ⟨_, h0⟩ | ⟨g, cap, cur, hv, hg, hgg, hc, hmx, _⟩
    ·rw [HCN.out] at h0; omega
    ·rw [HCN.out] at hv hc
     cases hv
     refine ⟨g, rfl, hc, ⟨hg, (Array.getElem?_eq_some_iff.1 hgg).1⟩, fun j hj => ?_⟩
     have hj' : j < candL.length := by simpa using hj
     rw [← HCN.out] at ho'
     rw [Nat.zero_add]
     refine ⟨(ho'.cellAt j (by omega)).trans ?_, ho'.frozenAt j⟩
     rw [List.getElem?_map, List.getElem?_eq_getElem hj', getElem!_pos candL.toArray j hj]
     simp
   obtain ⟨cap, rfl⟩ : ∃ cap, cap = yc := ⟨_, rfl⟩
   have C := Tryz.slices_Sort_int g 0 cap candL wr hH hgl.2 (by rw [HCN.out]; omega)
   rw [cand_sort, HCN.out] at C
   have HH : Hid (Holds (Value.int .i64) wr g 0 candL.toArray) := hH
   have HB2 : Hid (Below w.heap.size w wr) := HB1.out.trans (HB.out.mono HB1.out.size)
   clear ho HO HB hH
   go_wp2_with fail
   refine C.mono ?_
   rintro e w5 ⟨rfl, n5, os5, hw5⟩
   rw [putRow_self _ _ _ _ _ (show Holds (Value.int .i64) (Sort.ahead wr n5) g 0 candL.toArray from HH.out)] at hw5
   have b5 : Below wr.heap.size wr w5 := by rw [hw5]; exact below_grow n5 os5
   have hH5 : Holds (Value.int .i64) w5 g 0 candL.toArray := fun j hj => by
    have := HH.out j hj
    exact ⟨(b5.cell (p := ⟨g, 0 + j, none⟩) hgl.2).trans this.1, (b5.frozen (p := ⟨g, 0 + j, none⟩) hgl.2).trans this.2⟩
   have D := Tryz.slices_Compact_int g 0 cap candL w5 hH5 (by rw [HCN.out]; omega) (by rw [HCN.out]; exact hcap)
   rw [cand_compact, HCN.out] at D
   have HH5 : Hid (Holds (Value.int .i64) w5 g 0 candL.toArray) := hH5
   have HB5 : Hid (Below wr.heap.size wr w5) := b5
   clear C hw5 b5 hH5
   go_wp2_with fail
   refine D.mono ?_
   rintro e w6 ⟨rfl, q6, hw6⟩
   rw [show candL ++ List.replicate (k - k) 0 = candL by simp, putRow_self _ _ _ _ _ (show Holds (Value.int .i64) (Sort.ahead w5 q6) g 0 candL.toArray from HH5.out)] at hw6
   have R2 : Hid (Below w.heap.size w w6) := by
    have b6 : Below w5.heap.size w5 w6 := by rw [hw6]; exact ⟨rfl, rfl, rfl, Nat.le_refl _, fun _ _ => rfl⟩
    exact HB2.out.trans ((HB5.out.trans (b6.mono HB5.out.size)).mono HB2.out.size)
   have R1 : Hid (IV w6 (.slice (some ⟨g, 0, none⟩) k cap) candL) := by
    refine ⟨_, cap, by rw [HCN.out], fun _ => ⟨g, 0, rfl, fun j hj => ?_⟩⟩
    have := (HH5.out j (by simpa using hj)).1
    rw [hw6]
    have e1 : (Sort.ahead w5 q6).cell? ⟨g, 0 + j, none⟩ = w5.cell? ⟨g, 0 + j, none⟩ := rfl
    rw [e1, this, getElem!_pos _ _ (by simpa using hj), List.getD_eq_getElem?_getD, List.getElem?_eq_getElem hj]
    simp
   clear D hw6
   go_wp2
   go_ret
   exact ⟨_, rfl, R1.out, R2.out⟩
end Go.Proofs.YtinlolmjafjhnaaGreatDoor.dcp
end

section
/- rubricatorref07.Full: the document's answer. -/
set_option linter.unusedVariables false
set_option linter.unusedSimpArgs false
namespace Go.Proofs.YtinlolmjafjhnaaGreatDoor.dcp
open Go.RowKit Go.Maps lin prp

end Go.Proofs.YtinlolmjafjhnaaGreatDoor.dcp
end

section
/- DecompFull, DecompEnds, DecompHangul: the walks. -/
set_option linter.unusedVariables false
set_option linter.unusedSimpArgs false
namespace Go.Proofs.YtinlolmjafjhnaaGreatDoor.dcp
open Go.RowKit Go.Maps lin prp


end Go.Proofs.YtinlolmjafjhnaaGreatDoor.dcp
end

section
/- decomp.Members, decomp.Singles; the document's. -/
set_option linter.unusedVariables false
set_option linter.unusedSimpArgs false
namespace Go.Proofs.YtinlolmjafjhnaaGreatDoor.dcp
open Go.RowKit Go.Maps lin prp

def memL : List Int := candL.filter (fun r => decide (1 < (fullL r).length))
def sinL : List Int := candL.filter (fun r => decide ((fullL r).length = 1))
theorem cand_parts : ∀ r ∈ candL, 0 < (partsF r).length ∧ ¬ (44032 ≤ r ∧ r ≤ 55203) ∧ okI r := by
 have h : ∀ r ∈ candL, 0 < (partsF r).length ∧ ¬ (44032 ≤ r ∧ r ≤ 55203) ∧ (0 ≤ r ∧ r ≤ 1114111) := by decide +kernel
 intro r hr
 obtain ⟨h1, h2, h3⟩ := h r hr
 exact ⟨h1, h2, by unfold okI; omega⟩
theorem cand_len : candL.length ≤ 1000 := by decide +kernel
theorem sin_facts : 0 < sinL.length ∧ sinL.length ≤ 1000 ∧ ∀ r ∈ sinL, (fullL r).length = 1 ∧ (fullL r).getD 0 0 ≠ r ∧ (0 ≤ r ∧ r ≤ 1114111) := by decide +kernel
set_option maxRecDepth 1000000 in
theorem sin_any (a : Option Addr) (n c : Nat) (w : World) : Calls Tryz.prog 94 #[.slice a n c] w fun e w' => e = .returned (.bool (decide (n = 1))) ∧ w' = w := by
 by_cases h : n = 1
 ·rw [decide_eq_true h]
  have h1 : ((n : Int) == 1) = true := by simp; omega
  go_enter Tryz.func94, Tryz.ntmps94
  go_wp2
  go_ret
  exact ⟨rfl, rfl⟩
 ·rw [decide_eq_false h]
  have h1 : ((n : Int) == 1) = false := by simp; omega
  go_enter Tryz.func94, Tryz.ntmps94
  go_wp2
  go_ret
  exact ⟨rfl, rfl⟩
set_option maxHeartbeats 2000000 in
set_option maxRecDepth 1000000 in
theorem told_sin (t : Nat) (w : World) (h : Tabs w t) (E : Env w) : Calls Tryz.prog 93 #[.pointer (some ⟨t, 0, none⟩), .func (.func 94) #[] #[]] w fun e w' => ∃ v, e = .returned v ∧ IOwn w' w.heap.size v (candL.filter (fun r => decide ((fullL r).length = 1))) ∧ Below w.heap.size w w' := by
 obtain ⟨i0, hi, hz0, hy1, hz2⟩ := info_parts infoInt
 have C := cand_any w E
 have HT : Hid (Tabs w t) := h
 have HG : Hid (∀ k, k < candL.length → ∃ r, candL.getD k 0 = r ∧ r ∈ candL ∧ candL.take (k + 1) = candL.take k ++ [r]) := fun k hk => ⟨candL[k], by rw [List.getD_eq_getElem?_getD, List.getElem?_eq_getElem hk]; rfl, List.getElem_mem hk, List.take_succ_eq_append_getElem hk⟩
 have HFL : Hid (∀ k, ((candL.take k).filter (fun r => decide ((fullL r).length = 1))).length ≤ 1000) := fun k => by
  have h1 := List.length_filter_le (fun r => decide ((fullL r).length = 1)) (candL.take k)
  have h2 := cand_len
  rw [List.length_take] at h1
  omega
 have HALL : Hid (candL.take candL.length = candL) := List.take_length
 clear h E
 go_enter Tryz.func93, Tryz.ntmps93
 go_wp2_with fail
 refine C.mono ?_
 rintro e w1 ⟨v, rfl, hv, hb⟩
 obtain ⟨va, vc, rfl, hcl⟩ := hv
 obtain ⟨n, hn⟩ : ∃ n, candL.length = n := ⟨_, rfl⟩
 have HN : Hid (candL.length = n) := hn
 have hn0 : 0 < n := by rw [← hn]; decide +kernel
 have hnx : n ≤ 1000 := by rw [← hn]; exact cand_len
 obtain ⟨pb, po, rfl, hpc⟩ := hcl (by omega)
 have HC : Hid (∀ j, j < n → w1.cell? ⟨pb, po + j, none⟩ = some (.int .i64 (candL.getD j 0))) := fun j hj => hpc j (by omega)
 rw [hn]
 have HB1 : Hid (Below w.heap.size w w1) := hb
 clear C hcl hpc hn hb
 go_wp2
 go_loopw [5, 10] (fun v i wr => ∃ k : Nat, k ≤ n ∧ i = .int .i64 k ∧ Hid (IOwn wr w1.heap.size v ((candL.take k).filter (fun r => decide ((fullL r).length = 1)))) ∧ Hid (Below w1.heap.size w1 wr)) (fun _ i _ => n - (RowKit.intOf i).toNat)
 case atStart => exact ⟨0, Nat.zero_le _, rfl, World.ownsRow_nil _ _ _ _, Below.refl _ _⟩
 case round =>
  obtain ⟨k, hk, rfl, HO, HB⟩ := hrel
  by_cases hlt : k < n
  ·have hlt' : (k : Int) < (n : Int) := by omega
   obtain ⟨r, hrd, hrm, hrt⟩ := HG.out k (by rw [HN.out]; exact hlt)
   have c0 := cell_below HB.out (HC.out k hlt)
   rw [hrd] at c0
   obtain ⟨hp, hs, hok⟩ := cand_parts r hrm
   have bw : Below w.heap.size w wr := HB1.out.trans (HB.out.mono HB1.out.size)
   have HBW : Hid (Below w.heap.size w wr) := bw
   have C1 := isSyl_any r wr
   rw [decide_eq_false hs] at C1
   have C2 := parts_t t r wr (HT.out.below bw) hok
   have HOK : Hid (okI r) := hok
   have HRT : Hid (candL.take (k + 1) = candL.take k ++ [r]) := hrt
   obtain ⟨ya, yc, rfl⟩ := own_slice HO.out
   have hfl := HFL.out k
   have hsz := HB.out.size
   generalize hTL : ((candL.take k).filter (fun r => decide ((fullL r).length = 1))).length = tl at *
   generalize hPP : (partsF r).length = pp at *
   have hpz : (pp : Int) > 0 := by omega
   have hpz' : (0 : Int) < (pp : Int) := by omega
   clear hrd hrm hrt hs hok bw
   go_wp2_with fail
   refine C1.mono ?_
   rintro e w2 ⟨rfl, hw2⟩
   rw [hw2]
   clear C1 hw2 w2
   go_wp2_with fail
   refine C2.mono ?_
   rintro e w2 ⟨v2, rfl, hv2, b2⟩
   obtain ⟨xa, xc, hx⟩ := own_slice hv2
   rw [hPP] at hx
   subst hx
   have C3 := full_t t r w2 (HT.out.below (HBW.out.trans (b2.mono HBW.out.size))) HOK.out
   have HB2 : Hid (Below wr.heap.size wr w2) := b2
   clear C2 hv2 b2
   go_wp2_with fail
   refine C3.mono ?_
   rintro e w3 ⟨v3, rfl, hv3, b3⟩
   obtain ⟨za, zc, hz⟩ := own_slice hv3
   subst hz
   have C4 := sin_any za (fullL r).length zc w3
   have HB3 : Hid (Below wr.heap.size wr w3) := HB2.out.trans (b3.mono HB2.out.size)
   have HO3 : Hid (w3.ownsRow w1.heap.size 3 1 (.slice ya tl yc) tl (((candL.take k).filter (fun r => decide ((fullL r).length = 1))).map (Value.int .i64))) := by
    have := own_below HO.out HB3.out
    rw [hTL] at this
    exact this
   clear C3 hv3 b3
   by_cases hq : (fullL r).length = 1
   ·have HFT : Hid ((candL.take (k + 1)).filter (fun r => decide ((fullL r).length = 1)) = (candL.take k).filter (fun r => decide ((fullL r).length = 1)) ++ [r]) := by
     show _ = _
     rw [HRT.out, List.filter_append, List.filter_cons_of_pos (by simpa using hq)]
     rfl
    rw [decide_eq_true hq] at C4
    clear hq
    generalize hFN : (fullL r).length = fn at *
    go_wp2_with fail
    refine C4.mono ?_
    rintro e w4 ⟨rfl, hw4⟩
    rw [hw4]
    clear C4 hw4 w4
    have hsz3 : w1.heap.size ≤ w3.heap.size := by have := HB3.out.size; omega
    go_wp2_with (at_builtin; refine wpList_append_own _ rfl _ _ 37 rfl w1.heap.size 3 i0 (.int .i64 0) 1 8 Tryz.underlying37 hi hz0 hy1 hz2 rfl (by decide) _ _ _ rfl (HO3.out.alloc _) ⟨w3.heap.size, 0, none⟩ 1 1 [.int .i64 r] rfl rfl (cell_one_new _ _ _) ?c2 ?c3 ?c4 ?c5 ?_)
    case c2 => first | (intro u hu; simp at hu; subst hu; rfl) | simp [Value.oneCell']
    case c3 => unfold maxLen; omega
    case c4 => omega
    case c5 => first | omega | (simp; omega)
    intro v' w5 hown5 hgrow _
    have R2 : Hid (Below w1.heap.size w1 w5) := Below.grown ((HB.out.trans (HB3.out.mono hsz)).alloc hsz3 _) hgrow (by simp; omega) (fun k e => (HO3.out.lt k e).1)
    have R1 : Hid (IOwn w5 w1.heap.size v' ((candL.take (k + 1)).filter (fun r => decide ((fullL r).length = 1)))) := by
     show IOwn _ _ _ _
     unfold IOwn
     rw [HFT.out, List.length_append, List.length_singleton, List.map_append, hTL]
     simpa using hown5
    obtain ⟨xa', xc', rfl⟩ := own_slice hown5
    clear hown5 hgrow HO3 HO HB
    go_wp2
    go_roundw
    case rel => exact ⟨k + 1, by omega, by go_num, R1, R2⟩
    case measure => simp [RowKit.intOf]; omega
   ·have HFT : Hid ((candL.take (k + 1)).filter (fun r => decide ((fullL r).length = 1)) = (candL.take k).filter (fun r => decide ((fullL r).length = 1))) := by
     show _ = _
     rw [HRT.out, List.filter_append, List.filter_cons_of_neg (by simpa using hq)]
     simp
    rw [decide_eq_false hq] at C4
    clear hq
    generalize hFN : (fullL r).length = fn at *
    go_wp2_with fail
    refine C4.mono ?_
    rintro e w4 ⟨rfl, hw4⟩
    rw [hw4]
    clear C4 hw4 w4
    have R2 : Hid (Below w1.heap.size w1 w3) := HB.out.trans (HB3.out.mono hsz)
    have R1 : Hid (IOwn w3 w1.heap.size (.slice ya tl yc) ((candL.take (k + 1)).filter (fun r => decide ((fullL r).length = 1)))) := by
     show IOwn _ _ _ _
     unfold IOwn
     rw [HFT.out, hTL]
     exact HO3.out
    clear HO3 HO HB
    go_wp2
    go_roundw
    case rel => exact ⟨k + 1, by omega, by go_num, R1, R2⟩
    case measure => simp [RowKit.intOf]; omega
  ·obtain rfl : k = n := by omega
   have hlt' : ¬ (k : Int) < (k : Int) := by omega
   obtain ⟨ya, yc, rfl⟩ := own_slice HO.out
   have R1 : Hid (IOwn wr w.heap.size (.slice ya ((candL.take k).filter (fun r => decide ((fullL r).length = 1))).length yc) (candL.filter (fun r => decide ((fullL r).length = 1)))) := by
    have h1 := HO.out
    have h2 : candL.take k = candL := by rw [← HN.out, HALL.out]
    rw [h2] at h1 ⊢
    exact own_lower h1 HB1.out.size
   have R2 : Hid (Below w.heap.size w wr) := HB1.out.trans (HB.out.mono HB1.out.size)
   clear HO
   generalize ((candL.take k).filter (fun r => decide ((fullL r).length = 1))).length = tl at *
   go_wp2
   go_ret
   exact ⟨_, rfl, R1.out, R2.out⟩
set_option maxRecDepth 1000000 in
theorem sins_any (t : Nat) (w : World) (h : Tabs w t) (E : Env w) : Calls Tryz.prog 64 #[.pointer (some ⟨t, 0, none⟩)] w fun e w' => ∃ v, e = .returned v ∧ IOwn w' w.heap.size v sinL ∧ Below w.heap.size w w' := by
 have C := told_sin t w h E
 rw [show candL.filter (fun r => decide ((fullL r).length = 1)) = sinL from rfl] at C
 clear h E
 generalize sinL = L at *
 go_enter Tryz.func64, Tryz.ntmps64
 go_wp2_with fail
 refine C.mono ?_
 rintro e w1 ⟨v, rfl, hv, hb⟩
 obtain ⟨va, vc, rfl⟩ := own_slice hv
 have H : Hid (IOwn w1 w.heap.size (.slice va L.length vc) L ∧ Below w.heap.size w w1) := ⟨hv, hb⟩
 clear C hv hb
 generalize L.length = n at *
 go_wp2
 go_ret
 exact ⟨_, rfl, H.out⟩
end Go.Proofs.YtinlolmjafjhnaaGreatDoor.dcp
end
