/- The statement LinesApart, walked. -/
import Derived.Test.YtciblkmbkdhdiaaDoorLinSame
import Derived.Test.YtciblkmbkdhdiaaDoorLinPure
set_option linter.unusedVariables false
set_option linter.unusedSimpArgs false
namespace Go.Proofs.YtciblkmbkdhdiaaDoor.lin
open Go.RowKit

theorem cutV_join (a b c : ByteArray) (hc : c.data.toList = a.data.toList ++ 10 :: b.data.toList) : cutV c 10 = cutV a 10 ++ cutV b 10 := by
  have h := cutV_list c 10
  have ha := cutV_list a 10
  have hb := cutV_list b 10
  rw [hc, cutL_append, List.map_append, ← ha, ← hb] at h
  exact h
theorem parseV_all (s : ByteArray) (h : (cutV s 10).all lineOk = true) : parseV s = (recsOf (cutV s 10), 0, 0) := by unfold parseV; rw [if_pos h]
theorem parseV_not (s : ByteArray) (h : (cutV s 10).all lineOk = false) : ∃ n, parseV s = ([], n + 1, 20) ∧ n + 1 ≤ (cutV s 10).length := by
  unfold parseV
  rw [if_neg (by rw [h]; simp)]
  refine ⟨_, rfl, ?_⟩
  have : ∃ x ∈ cutV s 10, (!lineOk x) = true := by
    simpa using h
  have := List.findIdx_lt_length_of_exists this
  omega
theorem recsOf_fields (s : ByteArray) : ∀ r ∈ recsOf (cutV s 10), r.2.2.length ≤ s.size + 1 := by
  intro r hr
  unfold recsOf at hr
  obtain ⟨x, hx, hr⟩ := List.mem_flatMap.1 hr
  unfold lineRecs at hr
  split at hr
  · cases hr
  · obtain rfl := List.mem_singleton.1 hr
    have h1 := fields_len x
    have h2 : x.size ≤ s.size := cuts_size _ _ _ _ _ x hx
    simp only [recV, List.length_tail]
    omega
theorem cutV_len (s : ByteArray) (b : Int) : (cutV s b).length ≤ s.size + 1 := cuts_len s b s.size 0 0

theorem FAt.lower {w : World} {base base2 : Nat} {v : Value} {fs : List ByteArray} (h : FAt w base2 v fs) (hb : base ≤ base2) : FAt w base v fs := by
  obtain ⟨g, off, cap, cur, rfl, hg, rest⟩ := h
  exact ⟨g, off, cap, cur, rfl, by omega, rest⟩
theorem Recs.lower {w : World} {base base2 : Nat} {v : Value} {rs : List RecT} (h : Recs w base2 v rs) (hb : base ≤ base2) : Recs w base v rs := by
  obtain ⟨L, hL, ho, hf⟩ := h
  refine ⟨L, hL, ⟨ho.1, ?_⟩, fun q hq => (hf q hq).lower hb⟩
  rcases ho.2 with hn | ⟨g, cap, cur, rfl, hg, rest⟩
  · exact .inl hn
  · exact .inr ⟨g, cap, cur, rfl, by omega, rest⟩
theorem Recs.kept {w w' : World} {base : Nat} {v : Value} {rs : List RecT} (h : Recs w base v rs) (hb : Below w.heap.size w w') : Recs w' base v rs := h.turns (D := fun _ => False) (.of_below hb) (fun _ h => h.elim)
theorem Recs.own_lt {w : World} {base : Nat} {v : Value} {rs : List RecT} (h : Recs w base v rs) : ∀ k, v.ownBlock = some k → base ≤ k ∧ k < w.heap.size := by
  obtain ⟨L, _, ho, _⟩ := h
  exact fun k e => ho.lt k e
theorem own_typed {w : World} {base e size n : Nat} {v : Value} {xs : List Value} (ho : w.ownsRow base e size v n xs) : ∀ k, v.ownBlock = some k → ∃ cur, w.heap[k]? = some (.cells cur e (0, 0)) := by
  intro k e
  rcases ho.2 with hn | ⟨g', cap', cur', hv', h1, h2, _⟩
  · rw [hn.1] at e; cases e
  · rw [hv'] at e; cases e; exact ⟨_, h2⟩

/-- append(dst, src...), dst the call's own row of records, src nil or not. -/
theorem append_recs {w : World} {ops : Array Oper} {rest : List Oper} {o : Oper} {a : Act} {Q : Exit → Act → World → Prop} (hw : Region.wanted o (yielded ops a.tmps) = true) (s x : Operand)
    (ho : o.op = .call { callee := .builtin .append, args := #[s, x], argTypes := #[22, 22] })
    (base base2 : Nat) (vx vy : Value) (rx ry : List RecT) (hs : a.eval s = vx) (hx : a.eval x = vy) (hX : Recs w base vx rx) (hY : Recs w base2 vy ry) (hbb : base ≤ base2) (hbase : base ≤ w.heap.size) (hn : rx.length + ry.length ≤ 1099511627776)
    (h : ∀ v' w', Recs w' base v' (rx ++ ry) → w.grownBy w' vx.ownBlock → wpList Tryd.prog ops Q rest (a.put o.dst v') w') : wpList Tryd.prog ops Q (o :: rest) a w := by
  obtain ⟨i0, hi, hz0, hy1, hz2⟩ := info_parts infoRec3
  obtain ⟨Lx, rfl, ox, fx⟩ := hX
  obtain ⟨Ly, rfl, oy, fy⟩ := hY
  rw [List.length_map, List.length_map] at hn
  have fin : ∀ v' w', w'.ownsRow base 42 3 v' (Lx.length + Ly.length) (flatR Lx ++ flatR Ly) → w.grownBy w' vx.ownBlock → wpList Tryd.prog ops Q rest (a.put o.dst v') w' := by
    intro v' w' ho hg
    refine h v' w' ⟨Lx ++ Ly, by simp, by rw [List.length_append, flatR_append]; exact ho, fun q hq => ?_⟩ hg
    have t : Turns (fun k => ∃ cur, w.heap[k]? = some (.cells cur 42 (0, 0))) w w' := .of_grown hg (own_typed ox)
    rcases List.mem_append.1 hq with hq | hq
    · exact (fx q hq).turns t (fun k d => .inr d)
    · exact ((fy q hq).lower hbb).turns t (fun k d => .inr d)
  have one : ∀ u ∈ flatR Ly, u.oneCell' = true := by
    intro u hu
    unfold flatR at hu
    obtain ⟨q, hq, hu⟩ := List.mem_flatMap.1 hu
    obtain ⟨g, off, cap, cur, hv, _⟩ := fy q hq
    simp only [List.mem_cons, List.mem_nil_iff, or_false] at hu
    rcases hu with rfl | rfl | rfl
    · rfl
    · rfl
    · rw [hv]; rfl
  refine wpList_step fun K hK => ?_
  rw [if_pos hw]
  rcases oy.2 with hnil | ⟨g, cap, cur, rfl, hg, hgg, h3, h4, h5, h6⟩
  · obtain ⟨rfl, h0⟩ := hnil
    have h0' : Ly = [] := List.length_eq_zero_iff.1 h0
    subst h0'
    have hrun := run_append_owned_none (P := Tryd.prog) (w := w) base 22 o.type 42 i0 3 Tryd.underlying22 hi vx Lx.length (flatR Lx) ox
    unfold Oper.wp
    simp [execOp, ho, resolve, invoke, builtin, hs, hx, hrun, Result.andThen]
    exact hK _ _ (fin vx w (by simpa [flatR] using ox) ⟨rfl, rfl, rfl, Nat.le_refl _, fun _ _ _ => rfl⟩)
  · obtain ⟨v', w', hrun, r1, r2, _⟩ := run_append_own (P := Tryd.prog) (w := w) base 22 o.type 42 i0 (.agg #[.int .i64 0, .int .i64 0, .slice none 0 0]) 3 40 Tryd.underlying22 hi hz0 hy1 hz2 rfl (by decide) vx Lx.length (flatR Lx) ox ⟨g, 0, none⟩ Ly.length cap (flatR Ly) (flatR_length Ly)
      (fun j u hj => by
        have hlt : j < Ly.length * 3 := by rw [← flatR_length]; exact (List.getElem?_eq_some_iff.1 hj).1
        rw [show ((⟨g, 0, none⟩ : Addr).add j) = ⟨g, j, none⟩ from by simp [Addr.add]; omega, cell_of_row w g j cur _ _ hgg, ← hj, ← h6, List.getElem?_take_of_lt hlt, Array.getElem?_toList]) one (by unfold maxLen; omega) (by omega) hbase
    unfold Oper.wp
    simp [execOp, ho, resolve, invoke, builtin, hs, hx, hrun, Result.andThen]
    exact hK _ _ (fin v' w' r1 r2)

set_option maxHeartbeats 4000000 in
set_option maxRecDepth 100000 in
theorem linesApart_any (a b : ByteArray) (w : World) (m : Int) (ha : a.size ≤ 1048576) (hb : b.size ≤ 1048576) (hm : w.cell? ⟨2, 0, none⟩ = some (.int .i64 m)) (hm2 : 2 < w.heap.size) :
    Calls Tryd.prog 7 #[.string a, .string b] w fun e w' => e = .returned (.bool true) ∧ Below w.heap.size w w' := by
  have mx : ∀ W, Below w.heap.size w W → W.cell? ⟨2, 0, none⟩ = some (.int .i64 m) ∧ 2 < W.heap.size := fun W h => ⟨(h.cell (p := ⟨2, 0, none⟩) hm2).trans hm, by have := h.size; omega⟩
  have PA := parse_any a w m (by omega) hm hm2
  go_enter Tryd.func7, Tryd.ntmps7
  go_wp2_with fail
  refine PA.mono ?_
  rintro e w1 ⟨x, rfl, hX, b1⟩
  have PB := parse_any b w1 m (by omega) (mx w1 b1).1 (mx w1 b1).2
  clear PA
  have HX : Hid (Recs w1 (w.heap.size + 10) x (parseV a).1) := hX
  obtain ⟨xa, xc, rfl, _⟩ := hX.view
  clear hX
  generalize hpa : parseV a = pa at *
  obtain ⟨ra, na, ea⟩ := pa
  simp only [] at *
  go_wp2_with fail
  refine PB.mono ?_
  rintro e w2 ⟨y, rfl, hY, b2⟩
  clear PB
  have HY : Hid (Recs w2 (w1.heap.size + 10) y (parseV b).1) := hY
  obtain ⟨ya, yc, rfl, _⟩ := hY.view
  clear hY
  generalize hpb : parseV b = pb at *
  obtain ⟨rb, nb, eb⟩ := pb
  simp only [] at *
  go_wp2_with fail
  have hcs : (a ++ { data := #[10] } ++ b).data.toList = a.data.toList ++ 10 :: b.data.toList := by simp
  have hcz : (a ++ { data := #[10] } ++ b).size ≤ 1073741824 := by
    rw [← size_list, hcs, List.length_append, List.length_cons, size_list, size_list]; omega
  have b12 := b1.trans (b2.mono b1.size)
  have PC := parse_any (a ++ { data := #[10] } ++ b) w2 m hcz (mx w2 b12).1 (mx w2 b12).2
  refine PC.mono ?_
  rintro e w3 ⟨z, rfl, hZ, b3⟩
  clear PC
  have b13 := b12.trans (b3.mono b12.size)
  have hjo := cutV_join a b _ hcs
  have AW : ∀ W, Below w.heap.size w W → Calls Tryd.prog 17 #[] W fun e w' => e = .returned (.bool true) ∧ Below W.heap.size W w' := fun W h => awake_any W m (mx W h).1 (mx W h).2
  by_cases hab : (cutV a 10).all lineOk = true ∧ (cutV b 10).all lineOk = true
  · obtain ⟨hA, hB⟩ := hab
    rw [parseV_all _ hA] at hpa
    rw [parseV_all _ hB] at hpb
    have hpc := parseV_all (a ++ { data := #[10] } ++ b) (by rw [hjo, List.all_append, hA, hB]; rfl)
    rw [hpc] at hZ ⊢
    simp only [Prod.mk.injEq] at hpa hpb
    obtain ⟨hra, rfl, rfl⟩ := hpa
    obtain ⟨hrb, rfl, rfl⟩ := hpb
    have hrc : recsOf (cutV (a ++ { data := #[10] } ++ b) 10) = ra ++ rb := by rw [hjo, ← hra, ← hrb]; simp [recsOf]
    simp only [hrc] at hZ ⊢
    have hl1 : ra.length ≤ 1048577 := by have := recsOf_len (cutV a 10); have := cutV_len a 10; rw [hra] at *; omega
    have hl2 : rb.length ≤ 1048577 := by have := recsOf_len (cutV b 10); have := cutV_len b 10; rw [hrb] at *; omega
    have HFL : Hid (∀ r ∈ ra ++ rb, r.2.2.length ≤ 1099511627776) := by
      intro r hr
      rcases List.mem_append.1 hr with h | h
      · have := recsOf_fields a r (by rw [hra]; exact h); omega
      · have := recsOf_fields b r (by rw [hrb]; exact h); omega
    have HXK : Hid (∀ k, (Value.slice xa ra.length xc).ownBlock = some k → w.heap.size + 10 ≤ k ∧ k < w1.heap.size) := HX.out.own_lt
    have HX3 : Hid (Recs w3 (w.heap.size + 10) (.slice xa ra.length xc) ra) := (HX.out.kept b2).kept b3
    have HY3 : Hid (Recs w3 (w1.heap.size + 10) (.slice ya rb.length yc) rb) := HY.out.kept b3
    have HZ : Hid (Recs w3 (w2.heap.size + 10) z (ra ++ rb)) := hZ
    obtain ⟨za, zc, rfl, _⟩ := hZ.view
    clear hZ hpc hjo hrc hra hrb hA hB hcs hcz HX HY mx
    have hs1 := b1.size
    have hs2 := b2.size
    have hs3 := b3.size
    have HX4 : Hid (Recs w3 w.heap.size (.slice xa ra.length xc) ra) := HX3.out.lower (by omega)
    clear HX3
    go_wp2_with (at_builtin; refine append_recs (by rfl) _ _ rfl w.heap.size (w1.heap.size + 10) _ _ ra rb rfl rfl HX4.out HY3.out (by omega) (by omega) (by omega) ?_)
    intro v' w4 hR hgrow
    have hZ4 := HZ.out.turns (D := fun k => (Value.slice xa ra.length xc).ownBlock = some k) (.of_grown hgrow (fun k e => e)) (fun k d => by have := (HXK.out k d).2; omega)
    have b4 := b13.grown hgrow (by omega) (fun k e => by have := (HXK.out k e).1; omega)
    have SA := sameRecs_any _ _ (ra ++ rb) w4 (by rw [List.length_append]; omega) HFL.out hZ4.seen hR.seen
    rw [List.length_append] at SA
    obtain ⟨va, vc, rfl, _⟩ := hR.view
    rw [List.length_append] at SA ⊢
    clear hR hZ4 hgrow HZ HX4 HY3 HXK HFL
    go_wp2_with fail
    refine SA.mono ?_
    rintro e w5 ⟨rfl, b5⟩
    have b05 := b4.trans (b5.mono b4.size)
    clear SA
    go_wp2_with fail
    refine (AW _ b05).mono ?_
    rintro e w6 ⟨rfl, b6⟩
    go_wp2
    go_ret
    exact ⟨rfl, b05.trans (b6.mono b05.size)⟩
  · obtain ⟨n, hpc, hnl⟩ := parseV_not (a ++ { data := #[10] } ++ b) (by
      rw [hjo, List.all_append]
      cases h1 : (cutV a 10).all lineOk <;> cases h2 : (cutV b 10).all lineOk <;> simp [h1, h2] at hab ⊢)
    rw [hpc] at hZ ⊢
    simp only [] at hZ ⊢
    obtain ⟨za, zc, rfl, _⟩ := hZ.view
    have hn1 : n + 1 ≤ 1073741825 := by have := cutV_len (a ++ { data := #[10] } ++ b) 10; omega
    have hor : (ea = 20 ∨ eb = 20) ∧ (ea = 0 ∨ ea = 20) ∧ (eb = 0 ∨ eb = 20) := by
      have two : ∀ (s : ByteArray), ((cutV s 10).all lineOk = true → (parseV s).2.2 = 0) ∧ ((cutV s 10).all lineOk = false → (parseV s).2.2 = 20) := fun s =>
        ⟨fun h => by rw [parseV_all s h], fun h => by obtain ⟨k, hk, _⟩ := parseV_not s h; rw [hk]⟩
      have e1 := two a
      have e2 := two b
      rw [hpa] at e1
      rw [hpb] at e2
      simp only [] at e1 e2
      cases h1 : (cutV a 10).all lineOk <;> cases h2 : (cutV b 10).all lineOk <;> simp [h1, h2] at hab e1 e2 ⊢ <;> simp [e1, e2]
    clear hpa hpb hpc hjo hab hcs hcz HX HY mx hZ hnl
    rcases hor with ⟨h20, ha2, hb2⟩
    have tt : ((ea != 0) = true) ∨ ((ea != 0) = false ∧ (eb != 0) = true) := by
      rcases ha2 with rfl | rfl
      · right; rcases h20 with h | h
        · cases h
        · subst h; exact ⟨rfl, rfl⟩
      · left; rfl
    clear h20 ha2 hb2
    rcases tt with t1 | ⟨t1, t2⟩
    all_goals
      go_wp2_with fail
      refine (AW _ b13).mono ?_
      rintro e w6 ⟨rfl, b6⟩
      go_wp2
      go_ret
      exact ⟨rfl, b13.trans (b6.mono b13.size)⟩
end Go.Proofs.YtciblkmbkdhdiaaDoor.lin
