/- Texts that the proof leans on, one behind the other. -/
import Derived.Test.YtjbcapnpknbbaaaGreatRngRefSort
import Derived.Laws.AppendOwnNone

section
/- What the document's edges, both, Make, Union, Meet, Minus, Xor, Not, Can and Size answer. -/
set_option linter.unusedVariables false
set_option linter.unusedSimpArgs false
namespace Go.Proofs.YtjbcapnpknbbaaaGreat.rng
open Go.RowKit

theorem rv_news {w : World} {ad : Addr} {l : List R} (h : RV w (some ad) l) : ∀ (j : Nat) (u : Value), (flat l)[j]? = some u → w.cell? (ad.add j) = some u := by
  intro j u hj
  have hjl : j < (flat l).length := (List.getElem?_eq_some_iff.1 hj).1
  rw [flat_length] at hjl
  obtain ⟨b, off, e, hc⟩ := h.some (by omega)
  cases e
  have hx : l[j / 2]? = some l[j / 2] := List.getElem?_eq_getElem (by omega)
  obtain ⟨e1, e2⟩ := flat_get l (j / 2) _ hx
  obtain ⟨k1, k2⟩ := hc (j / 2) _ hx
  have ea : ((⟨b, off, none⟩ : Addr).add j) = ⟨b, off + j, none⟩ := by simp [Addr.add]
  rw [ea]
  rcases Nat.mod_two_eq_zero_or_one j with hm | hm
  · have ej : j = j / 2 * 2 := by omega
    rw [show (flat l)[j]? = (flat l)[j / 2 * 2]? from congrArg (fun k => (flat l)[k]?) ej, e1] at hj
    rw [show (⟨b, off + j, none⟩ : Addr) = ⟨b, off + j / 2 * 2, none⟩ from congrArg (fun k => (⟨b, off + k, none⟩ : Addr)) ej, k1]; exact hj
  · have ej : j = j / 2 * 2 + 1 := by omega
    rw [show (flat l)[j]? = (flat l)[j / 2 * 2 + 1]? from congrArg (fun k => (flat l)[k]?) ej, e2] at hj
    rw [show (⟨b, off + j, none⟩ : Addr) = ⟨b, off + j / 2 * 2 + 1, none⟩ from congrArg (fun k => (⟨b, k, none⟩ : Addr)) (show off + j = off + j / 2 * 2 + 1 by omega), k2]; exact hj
theorem rv_nil {w : World} {l : List R} (h : RV w none l) : l = [] := by
  rcases h with h | ⟨b, off, e, _⟩
  · exact h
  · cases e

/-- append(dst, src...), dst the call's own, src nil or not. -/
theorem append_src {w : World} {ops : Array Oper} {rest : List Oper} {o : Oper} {a : Act} {Q : Exit → Act → World → Prop} (hgd : o.guard = none) (s x : Operand)
    (ho : o.op = .call { callee := .builtin .append, args := #[s, x], argTypes := #[22, 22] })
    (base : Nat) (v : Value) (m l : List R) (hs : a.eval s = v) (hown : w.ownsRow base 44 2 v m.length (flat m))
    (ao : Option Addr) (n c : Nat) (hx : a.eval x = .slice ao n c) (hl : l.length = n) (hnil : ao = none → c = 0) (hv : RV w ao l)
    (hb : m.length + n ≤ 8796093022208) (hbase : base ≤ w.heap.size)
    (h : ∀ v' w', w'.ownsRow base 44 2 v' (m ++ l).length (flat (m ++ l)) → w.grownBy w' v.ownBlock → wpList Tryz.prog ops Q rest (a.put o.dst v') w') : wpList Tryz.prog ops Q (o :: rest) a w := by
  obtain ⟨i0, hi, hz0, hz1, hz2⟩ := info_parts infoRange
  cases ao with
  | none =>
    obtain rfl := rv_nil hv
    obtain rfl := hnil rfl
    obtain rfl : n = 0 := by simpa using hl.symm
    refine wpList_append_own_none hgd s x 22 ho base 44 i0 2 Tryz.underlying22 hi v m.length (flat m) hs hown hx (h v w ?_ ⟨rfl, rfl, rfl, Nat.le_refl _, fun _ _ _ => rfl⟩)
    simpa using hown
  | some ad =>
    exact wpList_append_own w hgd s x 22 ho base 44 i0 (.agg #[.int .i64 0, .int .i64 0]) 2 16 Tryz.underlying22 hi hz0 hz1 hz2 rfl (by decide) v m.length (flat m) hs hown ad n c (flat l) hx (by rw [flat_length, hl]) (rv_news hv) (flat_one l) (by unfold maxLen; omega) (by omega) hbase (fun v' w' h2 h3 _ => h v' w' (by rw [List.length_append, flat_append, hl]; exact h2) h3)

/-- Rows of unlike elements lie apart. -/
theorem own_apart {w : World} {B B' : Nat} {e e' : TypeId} {s s' n n' : Nat} {v v' : Value} {xs xs' : List Value} (h : w.ownsRow B e s v n xs) (h' : w.ownsRow B' e' s' v' n' xs') (hne : e ≠ e') : v.ownBlock = none ∨ v.ownBlock ≠ v'.ownBlock := by
  rcases h.2 with ⟨rfl, _⟩ | ⟨g, c, cur, rfl, _, hg, _⟩
  · exact .inl rfl
  · rcases h'.2 with ⟨rfl, _⟩ | ⟨g', c', cur', rfl, _, hg', _⟩
    · exact .inr (fun e => by cases e)
    · refine .inr (fun e0 => ?_)
      have e1 : g = g' := by simpa [Value.ownBlock] using e0
      subst e1
      rw [hg] at hg'
      cases hg'
      exact hne rfl
theorem own_rv {w : World} {B n c : Nat} {a : Option Addr} {q : List R} (h : w.ownsRow B 44 2 (.slice a n c) q.length (flat q)) : RV w a q := by
  obtain ⟨ao, cap, e, hv, _⟩ := Own.view (l := q) (B := B) h
  cases e; exact hv
theorem two_cells (w : World) (o : Obj) (x : Value) (t : TypeId) : ∀ (j : Nat) (u : Value), [x][j]? = some u → ((w.alloc o).alloc (Obj.cells #[x] t)).cell? ((⟨w.heap.size + 1, 0, none⟩ : Addr).add j) = some u := by
  intro j u hj
  match j, hj with
  | 0, hj => simp at hj; subst hj; simp [Addr.add]
  | k + 1, hj => simp at hj
theorem cellsI_snoc (l : List Int) (x : Int) : cellsI (l ++ [x]) = cellsI l ++ [.int .i64 x] := by simp [cellsI]

theorem rise_len : ∀ (E : List Int) (lo : Int), lo ≤ 1114112 → E.Pairwise (· < ·) → (∀ y ∈ E, lo ≤ y ∧ y ≤ 1114111) → (E.length : Int) + lo ≤ 1114112
  | [], lo, h, _, _ => by simpa using h
  | x :: E, lo, h, hp, hr => by
    have hx := hr x (List.mem_cons_self ..)
    rw [List.pairwise_cons] at hp
    have := rise_len E (x + 1) (by omega) hp.2 (fun y hy => by have := hp.1 y hy; have := hr y (List.mem_cons_of_mem _ hy); omega)
    rw [List.length_cons]; omega
theorem rise_len' {E : List Int} (hp : E.Pairwise (· < ·)) (hr : ∀ y ∈ E, 0 ≤ y ∧ y ≤ 1114111) : E.length ≤ 4000001 := by
  have := rise_len E 0 (by omega) hp hr; omega

set_option maxRecDepth 10000 in
set_option maxHeartbeats 2000000 in
theorem redges_any (a1 a2 : Option Addr) (c1 c2 : Nat) (l m : List R) (w : World) (hn : l.length + m.length ≤ 8796093021952) (h1 : RV w a1 l) (h2 : RV w a2 m) (n1 : a1 = none → c1 = 0) (n2 : a2 = none → c2 = 0) :
    Calls Tryz.prog 105 #[.slice a1 l.length c1, .slice a2 m.length c2] w fun e w' => ∃ v E, e = .returned v ∧ OwnI w' w.heap.size v E ∧ E.Pairwise (· < ·) ∧ Marks (l ++ m) E ∧ E.length ≤ 4000001 ∧ Below w.heap.size w w' := by
  obtain ⟨i0, hi, hz0, hz1, hz2⟩ := info_parts infoInt
  have H1 : Hid (RV w a1 l) := h1
  have H2 : Hid (RV w a2 m) := h2
  have N1 : Hid (a1 = none → c1 = 0) := n1
  have N2 : Hid (a2 = none → c2 = 0) := n2
  obtain ⟨k1, hk1⟩ : ∃ k, l.length = k := ⟨_, rfl⟩
  obtain ⟨k2, hk2⟩ : ∃ k, m.length = k := ⟨_, rfl⟩
  rw [hk1, hk2] at hn
  rw [hk1, hk2]
  have HK1 : Hid (l.length = k1) := hk1
  have HK2 : Hid (m.length = k2) := hk2
  clear h1 h2 n1 n2 hk1 hk2
  have b0 := (Below.refl w.heap.size w).alloc (Nat.le_refl _) (.cells #[.int .i64 0] 3)
  have b1 := b0.alloc (by simp) (.cells #[] 44)
  have HO0 : Hid ((w.alloc (.cells #[.int .i64 0] 3)).ownsRow w.heap.size 3 1 (.slice (some ⟨w.heap.size, 0, none⟩) 1 1) 1 (cellsI [0])) := World.ownsRow_lit (base := w.heap.size) (e := 3) (size := 1) w #[.int .i64 0] 1 (Nat.le_refl _) (by decide) rfl
  have HO1 : ((w.alloc (.cells #[.int .i64 0] 3)).alloc (.cells #[] 44)).ownsRow (w.heap.size + 1) 44 2 (.slice (some ⟨w.heap.size + 1, 0, none⟩) 0 0) ([] : List R).length (flat []) := by
    have := World.ownsRow_made (base := w.heap.size + 1) (e := 44) (size := 2) (w.alloc (.cells #[.int .i64 0] 3)) #[] 0 (by simp) (by decide) rfl
    simp only [World.size_alloc] at this
    exact this
  go_enter Tryz.func105, Tryz.ntmps105
  go_wp2_with (at_builtin; refine append_src rfl _ _ rfl (w.heap.size + 1) _ [] l rfl HO1 a1 k1 c1 rfl HK1.out N1.out (H1.out.below b1) (by simp; omega) (by simp) ?_)
  intro v1 w1 hown1a hg1
  have g1 : Below (w.heap.size + 1) ((w.alloc (.cells #[.int .i64 0] 3)).alloc (.cells #[] 44)) w1 := (Below.refl _ _).grown hg1 (by simp) (fun k e => by cases e; exact Nat.le_refl _)
  have b2 := b1.trans (g1.mono (by omega))
  have hown1 : w1.ownsRow (w.heap.size + 1) 44 2 v1 l.length (flat l) := hown1a
  clear HO1 hg1 hown1a
  go_wp2_with (at_builtin; refine append_src rfl _ _ rfl (w.heap.size + 1) _ l m rfl hown1 a2 k2 c2 rfl HK2.out N2.out (H2.out.below b2) (by rw [HK1.out]; omega) (by have := g1.size; simp at this; omega) ?_)
  intro v2 w2 hown2a hg2
  have hown2 : w2.ownsRow (w.heap.size + 1) 44 2 v2 (l ++ m).length (flat (l ++ m)) := by rw [List.length_append]; exact hown2a
  clear hown2a
  have g2 : Below (w.heap.size + 1) ((w.alloc (.cells #[.int .i64 0] 3)).alloc (.cells #[] 44)) w2 := g1.grown hg2 (by have := g1.size; simp at this; omega) (fun k e => (hown1.lt _ e).1)
  have b3 := b1.trans (g2.mono (by omega))
  obtain ⟨a3, c3, rfl, hv3, _, _⟩ := Own.view (l := l ++ m) (B := w.heap.size + 1) hown2
  have HV : Hid (w2.ownsRow (w.heap.size + 1) 44 2 (.slice a3 (l ++ m).length c3) (l ++ m).length (flat (l ++ m))) := hown2
  have HI : Hid (w2.ownsRow w.heap.size 3 1 (.slice (some ⟨w.heap.size, 0, none⟩) 1 1) 1 (cellsI [0])) := by
    have h := (HO0.out.alloc (.cells #[] 44))
    refine ⟨h.1, ?_⟩
    rcases h.2 with hn | ⟨g, cap, cur, e, hg, hgg, rest⟩
    · exact .inl hn
    · refine .inr ⟨g, cap, cur, e, hg, ?_, rest⟩
      cases e
      rw [g2.block _ (by omega)]; exact hgg
  have HL : Hid ((l ++ m).length = k1 + k2) := by unfold Hid; rw [List.length_append, HK1.out, HK2.out]
  clear hown1 hown2 hv3 g1 g2 hg2 b0 b1 b2 HO0 H1 H2 N1 N2 HK1 HK2
  obtain ⟨q, hq⟩ : ∃ q, l ++ m = q := ⟨_, rfl⟩
  rw [hq] at HV HL ⊢
  obtain ⟨n, hnn⟩ : ∃ n, k1 + k2 = n := ⟨_, rfl⟩
  rw [hnn] at HL
  rw [HL.out]
  have HV2 : Hid (w2.ownsRow (w.heap.size + 1) 44 2 (.slice a3 n c3) q.length (flat q)) := by
    have := HV.out; unfold Hid; rw [HL.out] at this ⊢; exact this
  have hn2 : n ≤ 8796093021952 := by omega
  have hs2 := b3.size
  have HM0 : Hid (Marks (q.take 0) [0]) := Marks.start
  clear HV
  go_wp2
  go_loopw [5, 15] (fun o i wr => ∃ (k : Nat) (M : List Int), k ≤ n ∧ i = .int .i64 k ∧ M.length ≤ 1 + 2 * k ∧ Hid (∃ g c, o = .slice (some ⟨g, 0, none⟩) M.length c) ∧ Hid (Marks (q.take k) M) ∧ wr.ownsRow w.heap.size 3 1 o M.length (cellsI M) ∧ Hid (wr.ownsRow (w.heap.size + 1) 44 2 (.slice a3 n c3) q.length (flat q)) ∧ Below w.heap.size w wr) (fun _ i _ => n - (intOf i).toNat)
  case atStart => exact ⟨0, [0], Nat.zero_le _, rfl, by simp, ⟨_, _, rfl⟩, HM0, HI.out, HV2, b3⟩
  case round =>
    obtain ⟨k, M, hk, rfl, hML, HF, HM, hown, HVr, hbel⟩ := hrel
    clear HM0 HI HV2 b3 hs2
    have hs1 := hbel.size
    by_cases hlt : k < n
    · obtain ⟨x, y, hp⟩ := get_lt HL.out hlt
      obtain ⟨b, off, rfl, hc⟩ := (own_rv HVr.out).some (by have := HL.out; omega)
      obtain ⟨c1, c2⟩ := hc k (x, y) hp
      simp only at c1 c2
      have HE0 : Hid (Marks (q.take (k + 1)) (M ++ (if 0 < x ∧ x ≤ 1114111 then [x] else []) ++ (if 0 ≤ y ∧ y < 1114111 then [y + 1] else []))) := by
        unfold Hid; rw [take_get hp]; exact HM.out.step
      clear hc hp HM
      have HW : Hid (∀ j, u5.ownBlock = some j → w.heap.size ≤ j) := fun j e => (hown.lt _ e).1
      have HNB : Hid (some wr.heap.size ≠ u5.ownBlock) := fun e => by have := (hown.lt _ e.symm).2; omega
      by_cases t1 : 0 < x ∧ x ≤ 1114111
      · rw [if_pos t1] at HE0
        obtain ⟨t1a, t1b⟩ := t1
        by_cases t2 : 0 ≤ y ∧ y < 1114111
        · rw [if_pos t2] at HE0
          obtain ⟨t2a, t2b⟩ := t2
          have HE : Hid (Marks (q.take (k + 1)) (M ++ [x] ++ [y + 1])) := HE0
          clear HE0
          go_wp2_with (at_builtin; refine wpList_append_own _ rfl _ _ 72 rfl w.heap.size 3 i0 (.int .i64 0) 1 8 Tryz.underlying72 hi hz0 hz1 hz2 rfl (by decide) _ _ _ rfl ((hown.alloc _).alloc _) ⟨wr.heap.size + 1, 0, none⟩ 1 1 [.int .i64 x] rfl rfl ?c1 ?c2 ?c3 ?c4 ?c5 ?_)
          case c1 => exact two_cells wr _ _ _
          case c2 => intro u hu; simp at hu; subst hu; rfl
          case c3 => unfold maxLen; omega
          case c4 => omega
          case c5 => simp; omega
          · intro v' w4 hown4 hgrow4 _
            have R2 := Below.grown ((hbel.alloc hs1 (.cells #[.int .i64 x, .int .i64 y] 44)).alloc (by simp; omega) (.cells #[.int .i64 x] 3)) hgrow4 (by simp; omega) HW.out
            have R1 : w4.ownsRow w.heap.size 3 1 v' (M ++ [x]).length (cellsI (M ++ [x])) := by rw [List.length_append, cellsI_snoc]; exact hown4
            have R3 := ((HVr.out.alloc (.cells #[.int .i64 x, .int .i64 y] 44)).alloc (.cells #[.int .i64 x] 3)).kept hgrow4 (own_apart HVr.out hown (by decide))
            have f0 : w4.cell? ⟨wr.heap.size, 0, none⟩ = some (.int .i64 x) := hgrow4.cell (by simp) HNB.out
            have f1 : w4.cell? ⟨wr.heap.size, 1, none⟩ = some (.int .i64 y) := hgrow4.cell (by simp) HNB.out
            have hs4 := R2.size
            have hlt4 : wr.heap.size < w4.heap.size := by have := hgrow4.size; simp at this; omega
            have hML1 : (M ++ [x]).length ≤ 2 + 2 * k := by rw [List.length_append]; simp; omega
            have HW4 : Hid (∀ j, v'.ownBlock = some j → w.heap.size ≤ j) := fun j e => (R1.lt _ e).1
            clear hown4 hgrow4
            go_wp2_with (at_builtin; refine wpList_append_own _ rfl _ _ 72 rfl w.heap.size 3 i0 (.int .i64 0) 1 8 Tryz.underlying72 hi hz0 hz1 hz2 rfl (by decide) _ _ _ rfl (R1.alloc _) ⟨w4.heap.size, 0, none⟩ 1 1 [.int .i64 (y + 1)] rfl rfl ?c1 ?c2 ?c3 ?c4 ?c5 ?_)
            case c1 => exact one_int w4 _ _
            case c2 => intro u hu; simp at hu; subst hu; rfl
            case c3 => unfold maxLen; omega
            case c4 => omega
            case c5 => simp; omega
            · intro v5 w5 hown5 hgrow5 _
              have S2 := Below.grown (R2.alloc hs4 (.cells #[.int .i64 (y + 1)] 3)) hgrow5 (by simp; omega) HW4.out
              have S1 : w5.ownsRow w.heap.size 3 1 v5 (M ++ [x] ++ [y + 1]).length (cellsI (M ++ [x] ++ [y + 1])) := by
                have e : (M ++ [x] ++ [y + 1]).length = M.length + 1 + 1 := by simp
                rw [e, cellsI_snoc (M ++ [x])]; exact hown5
              have S3 := (R3.alloc (.cells #[.int .i64 (y + 1)] 3)).kept hgrow5 (own_apart R3 R1 (by decide))
              have S4 : Hid (∃ g c, v5 = .slice (some ⟨g, 0, none⟩) (M ++ [x] ++ [y + 1]).length c) := by
                rcases S1.2 with ⟨_, h0⟩ | ⟨g, c, _, e, _⟩
                · simp at h0
                · exact ⟨g, c, e⟩
              have S5 : (M ++ [x] ++ [y + 1]).length ≤ 1 + 2 * (k + 1) := by rw [List.length_append]; show (M ++ [x]).length + 1 ≤ _; omega
              clear hown5 hgrow5
              go_wp2
              go_roundw
              case rel => exact ⟨k + 1, M ++ [x] ++ [y + 1], by omega, by go_num, S5, S4, HE, S1, S3, S2⟩
              case measure => simp [intOf]; omega
        · rw [if_neg t2, List.append_nil] at HE0
          have HE : Hid (Marks (q.take (k + 1)) (M ++ [x])) := HE0
          clear HE0
          go_wp2_with (at_builtin; refine wpList_append_own _ rfl _ _ 72 rfl w.heap.size 3 i0 (.int .i64 0) 1 8 Tryz.underlying72 hi hz0 hz1 hz2 rfl (by decide) _ _ _ rfl ((hown.alloc _).alloc _) ⟨wr.heap.size + 1, 0, none⟩ 1 1 [.int .i64 x] rfl rfl ?c1 ?c2 ?c3 ?c4 ?c5 ?_)
          case c1 => exact two_cells wr _ _ _
          case c2 => intro u hu; simp at hu; subst hu; rfl
          case c3 => unfold maxLen; omega
          case c4 => omega
          case c5 => simp; omega
          · intro v' w4 hown4 hgrow4 _
            have R2 := Below.grown ((hbel.alloc hs1 (.cells #[.int .i64 x, .int .i64 y] 44)).alloc (by simp; omega) (.cells #[.int .i64 x] 3)) hgrow4 (by simp; omega) HW.out
            have R1 : w4.ownsRow w.heap.size 3 1 v' (M ++ [x]).length (cellsI (M ++ [x])) := by rw [List.length_append, cellsI_snoc]; exact hown4
            have R3 := ((HVr.out.alloc (.cells #[.int .i64 x, .int .i64 y] 44)).alloc (.cells #[.int .i64 x] 3)).kept hgrow4 (own_apart HVr.out hown (by decide))
            have f0 : w4.cell? ⟨wr.heap.size, 0, none⟩ = some (.int .i64 x) := hgrow4.cell (by simp) HNB.out
            have f1 : w4.cell? ⟨wr.heap.size, 1, none⟩ = some (.int .i64 y) := hgrow4.cell (by simp) HNB.out
            have hs4 := R2.size
            have hlt4 : wr.heap.size < w4.heap.size := by have := hgrow4.size; simp at this; omega
            have hML1 : (M ++ [x]).length ≤ 2 + 2 * k := by rw [List.length_append]; simp; omega
            have HW4 : Hid (∀ j, v'.ownBlock = some j → w.heap.size ≤ j) := fun j e => (R1.lt _ e).1
            clear hown4 hgrow4
            have S4 : Hid (∃ g c, v' = .slice (some ⟨g, 0, none⟩) (M ++ [x]).length c) := by
              rcases R1.2 with ⟨_, h0⟩ | ⟨g, c, _, e, _⟩
              · simp at h0
              · exact ⟨g, c, e⟩
            have key : ∃ k' : Nat, ∃ M' : List Int, k' ≤ n ∧ Value.int .i64 ((k : Int) + 1) = .int .i64 k' ∧ M'.length ≤ 1 + 2 * k' ∧ Hid (∃ g c, v' = .slice (some ⟨g, 0, none⟩) M'.length c) ∧ Hid (Marks (q.take k') M') ∧ w4.ownsRow w.heap.size 3 1 v' M'.length (cellsI M') ∧ Hid (w4.ownsRow (w.heap.size + 1) 44 2 (.slice (some ⟨b, off, none⟩) n c3) q.length (flat q)) ∧ Below w.heap.size w w4 := ⟨k + 1, M ++ [x], by omega, by go_num, by omega, S4, HE, R1, R3, R2⟩
            by_cases t2a : 0 ≤ y
            · have t2b : ¬ y < 1114111 := fun h => t2 ⟨t2a, h⟩
              clear t2
              go_wp2
              go_roundw
              case rel => exact key
              case measure => simp [intOf]; omega
            · clear t2
              go_wp2
              go_roundw
              case rel => exact key
              case measure => simp [intOf]; omega
      · rw [if_neg t1, List.append_nil] at HE0
        have B1 := hbel.alloc hs1 (.cells #[.int .i64 x, .int .i64 y] 44)
        have O1 := hown.alloc (.cells #[.int .i64 x, .int .i64 y] 44)
        have V1 := HVr.out.alloc (.cells #[.int .i64 x, .int .i64 y] 44)
        by_cases t2 : 0 ≤ y ∧ y < 1114111
        · rw [if_pos t2] at HE0
          obtain ⟨t2a, t2b⟩ := t2
          have HE : Hid (Marks (q.take (k + 1)) (M ++ [y + 1])) := HE0
          clear HE0
          by_cases t1a : 0 < x
          · have t1b : ¬ x ≤ 1114111 := fun h => t1 ⟨t1a, h⟩
            clear t1 B1 O1 V1
            go_wp2_with (at_builtin; refine wpList_append_own _ rfl _ _ 72 rfl w.heap.size 3 i0 (.int .i64 0) 1 8 Tryz.underlying72 hi hz0 hz1 hz2 rfl (by decide) _ _ _ rfl ((hown.alloc _).alloc _) ⟨wr.heap.size + 1, 0, none⟩ 1 1 [.int .i64 (y + 1)] rfl rfl ?c1 ?c2 ?c3 ?c4 ?c5 ?_)
            try (case c1 => exact two_cells wr _ _ _)
            case c2 => first | rfl | (intro u hu; simp at hu; subst hu; rfl)
            case c3 => unfold maxLen; omega
            case c4 => omega
            case c5 => first | omega | (simp; omega)
            · intro v5 w5 hown5 hgrow5 _
              have S2 := Below.grown ((hbel.alloc hs1 (.cells #[.int .i64 x, .int .i64 y] 44)).alloc (by simp; omega) (.cells #[.int .i64 (y + 1)] 3)) hgrow5 (by simp; omega) HW.out
              have S1 : w5.ownsRow w.heap.size 3 1 v5 (M ++ [y + 1]).length (cellsI (M ++ [y + 1])) := by rw [List.length_append, cellsI_snoc]; exact hown5
              have S3 := ((HVr.out.alloc (.cells #[.int .i64 x, .int .i64 y] 44)).alloc (.cells #[.int .i64 (y + 1)] 3)).kept hgrow5 (own_apart HVr.out hown (by decide))
              have S4 : Hid (∃ g c, v5 = .slice (some ⟨g, 0, none⟩) (M ++ [y + 1]).length c) := by
                rcases S1.2 with ⟨_, h0⟩ | ⟨g, c, _, e, _⟩
                · simp at h0
                · exact ⟨g, c, e⟩
              have S5 : (M ++ [y + 1]).length ≤ 1 + 2 * (k + 1) := by rw [List.length_append]; show M.length + 1 ≤ _; omega
              clear hown5 hgrow5
              go_wp2
              go_roundw
              case rel => exact ⟨k + 1, M ++ [y + 1], by omega, by go_num, S5, S4, HE, S1, S3, S2⟩
              case measure => simp [intOf]; omega
          · clear t1 B1 O1 V1
            go_wp2_with (at_builtin; refine wpList_append_own _ rfl _ _ 72 rfl w.heap.size 3 i0 (.int .i64 0) 1 8 Tryz.underlying72 hi hz0 hz1 hz2 rfl (by decide) _ _ _ rfl ((hown.alloc _).alloc _) ⟨wr.heap.size + 1, 0, none⟩ 1 1 [.int .i64 (y + 1)] rfl rfl ?c1 ?c2 ?c3 ?c4 ?c5 ?_)
            try (case c1 => exact two_cells wr _ _ _)
            case c2 => first | rfl | (intro u hu; simp at hu; subst hu; rfl)
            case c3 => unfold maxLen; omega
            case c4 => omega
            case c5 => first | omega | (simp; omega)
            · intro v5 w5 hown5 hgrow5 _
              have S2 := Below.grown ((hbel.alloc hs1 (.cells #[.int .i64 x, .int .i64 y] 44)).alloc (by simp; omega) (.cells #[.int .i64 (y + 1)] 3)) hgrow5 (by simp; omega) HW.out
              have S1 : w5.ownsRow w.heap.size 3 1 v5 (M ++ [y + 1]).length (cellsI (M ++ [y + 1])) := by rw [List.length_append, cellsI_snoc]; exact hown5
              have S3 := ((HVr.out.alloc (.cells #[.int .i64 x, .int .i64 y] 44)).alloc (.cells #[.int .i64 (y + 1)] 3)).kept hgrow5 (own_apart HVr.out hown (by decide))
              have S4 : Hid (∃ g c, v5 = .slice (some ⟨g, 0, none⟩) (M ++ [y + 1]).length c) := by
                rcases S1.2 with ⟨_, h0⟩ | ⟨g, c, _, e, _⟩
                · simp at h0
                · exact ⟨g, c, e⟩
              have S5 : (M ++ [y + 1]).length ≤ 1 + 2 * (k + 1) := by rw [List.length_append]; show M.length + 1 ≤ _; omega
              clear hown5 hgrow5
              go_wp2
              go_roundw
              case rel => exact ⟨k + 1, M ++ [y + 1], by omega, by go_num, S5, S4, HE, S1, S3, S2⟩
              case measure => simp [intOf]; omega
        · rw [if_neg t2, List.append_nil] at HE0
          have key : ∃ k' : Nat, ∃ M' : List Int, k' ≤ n ∧ Value.int .i64 ((k : Int) + 1) = .int .i64 k' ∧ M'.length ≤ 1 + 2 * k' ∧ Hid (∃ g c, u5 = .slice (some ⟨g, 0, none⟩) M'.length c) ∧ Hid (Marks (q.take k') M') ∧ (wr.alloc (.cells #[.int .i64 x, .int .i64 y] 44)).ownsRow w.heap.size 3 1 u5 M'.length (cellsI M') ∧ Hid ((wr.alloc (.cells #[.int .i64 x, .int .i64 y] 44)).ownsRow (w.heap.size + 1) 44 2 (.slice (some ⟨b, off, none⟩) n c3) q.length (flat q)) ∧ Below w.heap.size w (wr.alloc (.cells #[.int .i64 x, .int .i64 y] 44)) := ⟨k + 1, M, by omega, by go_num, by omega, HF, HE0, O1, V1, B1⟩
          by_cases t1a : 0 < x
          all_goals
            first | (have t1b : ¬ x ≤ 1114111 := fun h => t1 ⟨t1a, h⟩) | skip
            by_cases t2a : 0 ≤ y
            all_goals
              first | (have t2b : ¬ y < 1114111 := fun h => t2 ⟨t2a, h⟩) | skip
              clear t1 t2
              go_wp2
              go_roundw
              case rel => exact key
              case measure => simp [intOf]; omega
    · obtain ⟨g, c, rfl⟩ := HF.out
      have C := sorted_any g c w.heap.size M wr hown hs1 (by omega)
      have HMM : Hid (Marks q M) := by
        have := HM.out
        rw [List.take_of_length_le (by rw [HL.out]; omega)] at this; exact this
      clear hown HF HM HVr
      generalize M.length = mm at *
      go_wp2_with fail
      refine C.mono ?_
      rintro e w4 ⟨v4, E, rfl, hoE, hlt4, hme, hle, hb4⟩
      have HRE : Hid (E.Pairwise (· < ·)) := hlt4
      have HME : Hid (∀ y, y ∈ E ↔ y ∈ M) := hme
      clear C hlt4 hme
      go_wp2
      go_ret
      refine ⟨_, E, rfl, hoE, HRE.out, by rw [hq]; exact HMM.out.of_mem HME.out, rise_len' HRE.out (HMM.out.of_mem HME.out).rng, hbel.trans hb4⟩
end Go.Proofs.YtjbcapnpknbbaaaGreat.rng
end

section
/- What the document's both answers: the set of what the way of two lists says; Make, Union, Meet, Minus, Xor, Not, Size. -/
set_option linter.unusedVariables false
set_option linter.unusedSimpArgs false
namespace Go.Proofs.YtjbcapnpknbbaaaGreat.rng
open Go.RowKit

set_option maxRecDepth 10000 in
set_option maxHeartbeats 4000000 in
theorem both_any (a1 a2 : Option Addr) (c1 c2 : Nat) (l m : List R) (kind : Nat) (w : World) (hk3 : kind ≤ 3) (hn' : l.length + m.length ≤ 8796093021952) (h1 : RV w a1 l) (h2 : RV w a2 m) (n1 : a1 = none → c1 = 0) (n2 : a2 = none → c2 = 0) :
    Calls Tryz.prog 104 #[.slice a1 l.length c1, .slice a2 m.length c2, .int .i64 kind] w fun e w' => ∃ v r, e = .returned v ∧ Own w' w.heap.size v r ∧ IsSet r (fun x => way kind (has l x) (has m x)) ∧ Below w.heap.size w w' := by
  obtain ⟨i0, hi, hz0, hz1, hz2⟩ := info_parts infoRange
  have C := redges_any a1 a2 c1 c2 l m w hn' h1 h2 n1 n2
  have H1 : Hid (RV w a1 l) := h1
  have H2 : Hid (RV w a2 m) := h2
  have hn : l.length ≤ 8796093021952 := by omega
  have hm : m.length ≤ 8796093021952 := by omega
  clear h1 h2 n1 n2 hn'
  obtain ⟨f, hf⟩ : ∃ f : Int → Bool, f = fun x => way kind (has l x) (has m x) := ⟨_, rfl⟩
  rw [← hf]
  have HFd : Hid (∀ x, f x = way kind (has l x) (has m x)) := fun x => by rw [hf]
  clear hf
  go_enter Tryz.func104, Tryz.ntmps104
  go_wp2_with fail
  refine C.mono ?_
  rintro e w1 ⟨v1, E, rfl, hoE, hP, hMk, hEl, hb1⟩
  obtain ⟨b1, d1, rfl, hv1, _, _⟩ := OwnI.view hoE
  have HV : Hid (IV w1 b1 E) := hv1
  have HP : Hid (E.Pairwise (· < ·)) := hP
  have HMK : Hid (Marks (l ++ m) E) := hMk
  have HI : Hid (BoInv f [] (cur E 0)) := by unfold Hid; rw [hMk.cur_zero hP]; exact BoInv.start f
  obtain ⟨n, hEn⟩ : ∃ n, E.length = n := ⟨_, rfl⟩
  rw [hEn] at hEl ⊢
  have HEn : Hid (E.length = n) := hEn
  have hbs := hb1.size
  clear C hoE hv1 hP hMk hEn
  go_wp2
  go_loopw [7, 18] (fun o i wr => ∃ (k : Nat) (out : List R), k ≤ n ∧ i = .int .i64 k ∧ out.length ≤ k ∧ Hid (BoInv f out (cur E k)) ∧ wr.ownsRow w1.heap.size 44 2 o out.length (flat out) ∧ Below w1.heap.size w1 wr) (fun _ i _ => n - (intOf i).toNat)
  case atStart => exact ⟨0, [], Nat.zero_le _, rfl, Nat.le_refl _, HI, World.ownsRow_nil _ _ _ _, Below.refl _ _⟩
  case round =>
    obtain ⟨k, out, hk, rfl, hol, HBo, hown, hbel⟩ := hrel
    clear HI
    have hs1 := hbel.size
    by_cases hlt : k < n
    · obtain ⟨x, hx⟩ := get_ltI HEn.out hlt
      obtain ⟨b, off, rfl, hc⟩ := (HV.out.below hbel).some (by have := HEn.out; omega)
      have cx := hc k x hx
      have hxr := HMK.out.rng x (List.mem_of_getElem? hx)
      obtain ⟨hx0, hx1⟩ := hxr
      by_cases hk1 : k + 1 < n
      · obtain ⟨z, hz⟩ := get_ltI HEn.out hk1
        have cz := hc (k + 1) z hz
        have hzr := HMK.out.rng z (List.mem_of_getElem? hz)
        obtain ⟨hz0', hz1'⟩ := hzr
        have hcur : cur E (k + 1) = z := cur_get hz
        clear hc hz

        have GAP : Hid (∀ y, x ≤ y → y < z → f y = f x) := fun y h1 h2 => by
          have e1 := HMK.out.flat HP.out (a := l) (fun p hp => List.mem_append.2 (Or.inl hp)) hx h1 (by rw [hcur]; exact h2)
          have e2 := HMK.out.flat HP.out (a := m) (fun p hp => List.mem_append.2 (Or.inr hp)) hx h1 (by rw [hcur]; exact h2)
          rw [HFd.out y, HFd.out x, e1, e2]
        have hgt : x < z := by have := (HMK.out.next HP.out hx).1; rw [hcur] at this; exact this
        have hmx : z ≤ (1114112 : Int) := by have := (HMK.out.next HP.out hx).2.1; rw [hcur] at this; exact this
        have HCN : Hid (cur E (k + 1) = z) := hcur
        have HB : Hid (BoInv f out x) := by have := HBo.out; rw [cur_get hx] at this; exact this
        have CI := in_any a1 a2 c1 c2 l m kind x wr hk3 hn hm (H1.out.below (hb1.trans (hbel.mono hbs))) (H2.out.below (hb1.trans (hbel.mono hbs)))
        have HFX : Hid (way kind (has l x) (has m x) = f x) := by unfold Hid; rw [HFd.out]
        rw [HFX.out] at CI
        have HCI : Hid (Calls Tryz.prog 106 #[.slice a1 l.length c1, .slice a2 m.length c2, .int .i64 kind, .int .i64 x] wr fun e w' => e = .returned (.bool (f x)) ∧ Below wr.heap.size wr w') := CI
        clear CI hcur hx HBo
        obtain ⟨fx, hfx⟩ : ∃ b, f x = b := ⟨_, rfl⟩
        have HFF : Hid (f x = fx) := hfx
        clear hfx
        go_wp2_with fail
        refine HCI.out.mono ?_
        rintro e w3 ⟨rfl, hb3'⟩
        have hb3 := hbel.trans (hb3'.mono hs1)
        have hs3 := hb3.size
        have hown3 := own_below' hown hb3'
        rw [HFF.out]
        clear HCI hb3' hown hbel
        cases fx with
        | false =>
          have HE : Hid (BoInv f out (cur E (k + 1))) := by
            unfold Hid; rw [HCN.out]
            exact HB.out.skip (by omega) (fun y h1 h2 => (GAP.out y h1 h2).trans HFF.out)
          clear HB
          go_wp2
          go_roundw
          case rel => exact ⟨k + 1, out, by omega, by go_num, by omega, HE, hown3, hb3⟩
          case measure => simp [intOf]; omega
        | true =>
          have HW : Hid (∀ j, u7.ownBlock = some j → w1.heap.size ≤ j) := fun j e => (hown3.lt _ e).1
          rcases List.eq_nil_or_concat out with rfl | ⟨i, q, rfl⟩
          · have HE : Hid (BoInv f ([] ++ [(x, z - 1)]) (cur E (k + 1))) := by
              unfold Hid; rw [HCN.out]
              have := HB.out.new hx0 hgt hmx (fun y h1 h2 => (GAP.out y h1 h2).trans HFF.out) (fun i q e => by simp at e)
              simpa using this
            obtain ⟨ua, uc, rfl⟩ : ∃ ua uc, u7 = .slice ua 0 uc := by
              rcases hown3.2 with ⟨e, _⟩ | ⟨g, c, _, e, _⟩
              · exact ⟨_, _, e⟩
              · exact ⟨_, _, e⟩
            have hown5 : w3.ownsRow w1.heap.size 44 2 (.slice ua 0 uc) 0 [] := hown3
            clear hown3 HB
            go_wp2_with (at_builtin; refine wpList_append_own _ rfl _ _ 22 rfl w1.heap.size 44 i0 (.agg #[.int .i64 0, .int .i64 0]) 2 16 Tryz.underlying22 hi hz0 hz1 hz2 rfl (by decide) _ _ _ rfl (hown5.alloc _) ⟨w3.heap.size, 0, none⟩ 1 1 [.int .i64 x, .int .i64 (z - 1)] rfl rfl ?c1 ?c2 ?c3 ?c4 ?c5 ?_)
            try (case c1 => exact one_new w3 _ _ _)
            case c2 => first | (intro u hu; simp at hu; rcases hu with rfl | rfl <;> rfl) | (refine ⟨?_, ?_⟩ <;> rfl)
            case c3 => unfold maxLen; omega
            case c4 => omega
            case c5 => first | omega | (simp; omega)
            · intro v' w4 hown4 hgrow _
              have R2 := Below.grown (hb3.alloc hs3 (.cells #[.int .i64 x, .int .i64 (z - 1)] 44)) hgrow (by simp; omega) HW.out
              have R1 : w4.ownsRow w1.heap.size 44 2 v' ([] ++ [(x, z - 1)]).length (flat ([] ++ [(x, z - 1)])) := by
                have e : ([] ++ [(x, z - 1)]).length = 0 + 1 := by rfl
                rw [e, flat_append ([]), flat_two]; exact hown4
              have R3 : ([] ++ [(x, z - 1)]).length ≤ k + 1 := by
                have e : ([] ++ [(x, z - 1)]).length = 0 + 1 := by rfl
                rw [e]; omega
              clear hown4 hgrow
              go_wp2
              go_roundw
              case rel => exact ⟨k + 1, [] ++ [(x, z - 1)], by omega, by go_num, R3, HE, R1, R2⟩
              case measure => simp [intOf]; omega
          · rw [List.concat_eq_append] at *
            obtain ⟨q1, q2⟩ := q
            have hcan := (can_snoc _ _ _).1 HB.out.can
            obtain ⟨g, c, rfl, hg1, hg2, hg3, hg4, k1, k2, k3⟩ := own_last hown3
            simp only at k1 k2
            have hq0 : -2 ≤ q2 := by have := nxt_ge i 0 hcan.1; have := hcan.2; simp only at this; omega
            have hq1 : q2 ≤ 1114111 := hcan.2.2.2
            have hiL : i.length + 1 ≤ k := by simpa using hol
            unfold maxLen at hg4
            obtain ⟨L, hL⟩ : ∃ L, i.length = L := ⟨_, rfl⟩
            have HLL : Hid (i.length = L) := hL
            have hown5 : w3.ownsRow w1.heap.size 44 2 (.slice (some ⟨g, 0, none⟩) (L + 1) c) (L + 1) (flat (i ++ [(q1, q2)])) := by
              have e : (i ++ [(q1, q2)]).length = L + 1 := by rw [List.length_append, hL]; rfl
              rw [e, hL] at hown3; exact hown3
            have hset : Hid ((w3.setCell ⟨g, L * 2 + 1, none⟩ (.int .i64 (z - 1))).ownsRow w1.heap.size 44 2 (.slice (some ⟨g, 0, none⟩) (L + 1) c) (i ++ [(q1, z - 1)]).length (flat (i ++ [(q1, z - 1)]))) := by
              unfold Hid; rw [← hL]; exact own_setHi hown3
            rw [hL] at k1 k2 k3 hg3 hiL ⊢
            clear hL hown3 hcan k1 hol
            by_cases hj : q2 = x - 1
            · subst hj
              have HE : Hid (BoInv f (i ++ [(q1, z - 1)]) (cur E (k + 1))) := by
                unfold Hid; rw [HCN.out]
                have := HB.out.join hgt hmx (fun y h1 h2 => (GAP.out y h1 h2).trans HFF.out) rfl
                simpa using this
              have R2 := hb3.setCell (p := ⟨g, L * 2 + 1, none⟩) hg1 (.int .i64 (z - 1))
              have R3 : (i ++ [(q1, z - 1)]).length ≤ k + 1 := by rw [List.length_append, HLL.out]; simp; omega
              clear HB hown5
              go_wp2
              go_roundw
              case rel => exact ⟨k + 1, i ++ [(q1, z - 1)], by omega, by go_num, R3, HE, hset, R2⟩
              case measure => simp [intOf]; omega
            · have HE : Hid (BoInv f (i ++ [(q1, q2)] ++ [(x, z - 1)]) (cur E (k + 1))) := by
                unfold Hid; rw [HCN.out]
                have := HB.out.new hx0 hgt hmx (fun y h1 h2 => (GAP.out y h1 h2).trans HFF.out) (fun i' q' e => by obtain ⟨_, rfl⟩ := snoc_inj e; exact hj)
                simpa using this
              have hje : (q2 == x - 1) = false := by simpa using hj
              clear HB hset hj
              go_wp2_with (at_builtin; refine wpList_append_own _ rfl _ _ 22 rfl w1.heap.size 44 i0 (.agg #[.int .i64 0, .int .i64 0]) 2 16 Tryz.underlying22 hi hz0 hz1 hz2 rfl (by decide) _ _ _ rfl (hown5.alloc _) ⟨w3.heap.size, 0, none⟩ 1 1 [.int .i64 x, .int .i64 (z - 1)] rfl rfl ?c1 ?c2 ?c3 ?c4 ?c5 ?_)
              try (case c1 => exact one_new w3 _ _ _)
              case c2 => first | (intro u hu; simp at hu; rcases hu with rfl | rfl <;> rfl) | (refine ⟨?_, ?_⟩ <;> rfl)
              case c3 => unfold maxLen; omega
              case c4 => omega
              case c5 => first | omega | (simp; omega)
              · intro v' w4 hown4 hgrow _
                have R2 := Below.grown (hb3.alloc hs3 (.cells #[.int .i64 x, .int .i64 (z - 1)] 44)) hgrow (by simp; omega) HW.out
                have R1 : w4.ownsRow w1.heap.size 44 2 v' (i ++ [(q1, q2)] ++ [(x, z - 1)]).length (flat (i ++ [(q1, q2)] ++ [(x, z - 1)])) := by
                  have e : (i ++ [(q1, q2)] ++ [(x, z - 1)]).length = L + 1 + 1 := by rw [List.length_append, List.length_append, HLL.out]; rfl
                  rw [e, flat_append (i ++ [(q1, q2)]), flat_two]; exact hown4
                have R3 : (i ++ [(q1, q2)] ++ [(x, z - 1)]).length ≤ k + 1 := by
                  have e : (i ++ [(q1, q2)] ++ [(x, z - 1)]).length = L + 1 + 1 := by rw [List.length_append, List.length_append, HLL.out]; rfl
                  rw [e]; omega
                clear hown4 hgrow
                go_wp2
                go_roundw
                case rel => exact ⟨k + 1, i ++ [(q1, q2)] ++ [(x, z - 1)], by omega, by go_num, R3, HE, R1, R2⟩
                case measure => simp [intOf]; omega
      · have hcur : cur E (k + 1) = 1114112 := cur_end (by rw [HEn.out]; omega)
        clear hc

        have GAP : Hid (∀ y, x ≤ y → y < (1114112 : Int) → f y = f x) := fun y h1 h2 => by
          have e1 := HMK.out.flat HP.out (a := l) (fun p hp => List.mem_append.2 (Or.inl hp)) hx h1 (by rw [hcur]; exact h2)
          have e2 := HMK.out.flat HP.out (a := m) (fun p hp => List.mem_append.2 (Or.inr hp)) hx h1 (by rw [hcur]; exact h2)
          rw [HFd.out y, HFd.out x, e1, e2]
        have hgt : x < (1114112 : Int) := by have := (HMK.out.next HP.out hx).1; rw [hcur] at this; exact this
        have hmx : (1114112 : Int) ≤ (1114112 : Int) := by have := (HMK.out.next HP.out hx).2.1; rw [hcur] at this; exact this
        have HCN : Hid (cur E (k + 1) = (1114112 : Int)) := hcur
        have HB : Hid (BoInv f out x) := by have := HBo.out; rw [cur_get hx] at this; exact this
        have CI := in_any a1 a2 c1 c2 l m kind x wr hk3 hn hm (H1.out.below (hb1.trans (hbel.mono hbs))) (H2.out.below (hb1.trans (hbel.mono hbs)))
        have HFX : Hid (way kind (has l x) (has m x) = f x) := by unfold Hid; rw [HFd.out]
        rw [HFX.out] at CI
        have HCI : Hid (Calls Tryz.prog 106 #[.slice a1 l.length c1, .slice a2 m.length c2, .int .i64 kind, .int .i64 x] wr fun e w' => e = .returned (.bool (f x)) ∧ Below wr.heap.size wr w') := CI
        clear CI hcur hx HBo
        obtain ⟨fx, hfx⟩ : ∃ b, f x = b := ⟨_, rfl⟩
        have HFF : Hid (f x = fx) := hfx
        clear hfx
        go_wp2_with fail
        refine HCI.out.mono ?_
        rintro e w3 ⟨rfl, hb3'⟩
        have hb3 := hbel.trans (hb3'.mono hs1)
        have hs3 := hb3.size
        have hown3 := own_below' hown hb3'
        rw [HFF.out]
        clear HCI hb3' hown hbel
        cases fx with
        | false =>
          have HE : Hid (BoInv f out (cur E (k + 1))) := by
            unfold Hid; rw [HCN.out]
            exact HB.out.skip (by omega) (fun y h1 h2 => (GAP.out y h1 h2).trans HFF.out)
          clear HB
          go_wp2
          go_roundw
          case rel => exact ⟨k + 1, out, by omega, by go_num, by omega, HE, hown3, hb3⟩
          case measure => simp [intOf]; omega
        | true =>
          have HW : Hid (∀ j, u7.ownBlock = some j → w1.heap.size ≤ j) := fun j e => (hown3.lt _ e).1
          rcases List.eq_nil_or_concat out with rfl | ⟨i, q, rfl⟩
          · have HE : Hid (BoInv f ([] ++ [(x, 1114111)]) (cur E (k + 1))) := by
              unfold Hid; rw [HCN.out]
              have := HB.out.new hx0 hgt hmx (fun y h1 h2 => (GAP.out y h1 h2).trans HFF.out) (fun i q e => by simp at e)
              simpa using this
            obtain ⟨ua, uc, rfl⟩ : ∃ ua uc, u7 = .slice ua 0 uc := by
              rcases hown3.2 with ⟨e, _⟩ | ⟨g, c, _, e, _⟩
              · exact ⟨_, _, e⟩
              · exact ⟨_, _, e⟩
            have hown5 : w3.ownsRow w1.heap.size 44 2 (.slice ua 0 uc) 0 [] := hown3
            clear hown3 HB
            go_wp2_with (at_builtin; refine wpList_append_own _ rfl _ _ 22 rfl w1.heap.size 44 i0 (.agg #[.int .i64 0, .int .i64 0]) 2 16 Tryz.underlying22 hi hz0 hz1 hz2 rfl (by decide) _ _ _ rfl (hown5.alloc _) ⟨w3.heap.size, 0, none⟩ 1 1 [.int .i64 x, .int .i64 (1114111)] rfl rfl ?c1 ?c2 ?c3 ?c4 ?c5 ?_)
            try (case c1 => exact one_new w3 _ _ _)
            case c2 => first | (intro u hu; simp at hu; rcases hu with rfl | rfl <;> rfl) | (refine ⟨?_, ?_⟩ <;> rfl)
            case c3 => unfold maxLen; omega
            case c4 => omega
            case c5 => first | omega | (simp; omega)
            · intro v' w4 hown4 hgrow _
              have R2 := Below.grown (hb3.alloc hs3 (.cells #[.int .i64 x, .int .i64 (1114111)] 44)) hgrow (by simp; omega) HW.out
              have R1 : w4.ownsRow w1.heap.size 44 2 v' ([] ++ [(x, 1114111)]).length (flat ([] ++ [(x, 1114111)])) := by
                have e : ([] ++ [(x, 1114111)]).length = 0 + 1 := by rfl
                rw [e, flat_append ([]), flat_two]; exact hown4
              have R3 : ([] ++ [(x, 1114111)]).length ≤ k + 1 := by
                have e : ([] ++ [(x, 1114111)]).length = 0 + 1 := by rfl
                rw [e]; omega
              clear hown4 hgrow
              go_wp2
              go_roundw
              case rel => exact ⟨k + 1, [] ++ [(x, 1114111)], by omega, by go_num, R3, HE, R1, R2⟩
              case measure => simp [intOf]; omega
          · rw [List.concat_eq_append] at *
            obtain ⟨q1, q2⟩ := q
            have hcan := (can_snoc _ _ _).1 HB.out.can
            obtain ⟨g, c, rfl, hg1, hg2, hg3, hg4, k1, k2, k3⟩ := own_last hown3
            simp only at k1 k2
            have hq0 : -2 ≤ q2 := by have := nxt_ge i 0 hcan.1; have := hcan.2; simp only at this; omega
            have hq1 : q2 ≤ 1114111 := hcan.2.2.2
            have hiL : i.length + 1 ≤ k := by simpa using hol
            unfold maxLen at hg4
            obtain ⟨L, hL⟩ : ∃ L, i.length = L := ⟨_, rfl⟩
            have HLL : Hid (i.length = L) := hL
            have hown5 : w3.ownsRow w1.heap.size 44 2 (.slice (some ⟨g, 0, none⟩) (L + 1) c) (L + 1) (flat (i ++ [(q1, q2)])) := by
              have e : (i ++ [(q1, q2)]).length = L + 1 := by rw [List.length_append, hL]; rfl
              rw [e, hL] at hown3; exact hown3
            have hset : Hid ((w3.setCell ⟨g, L * 2 + 1, none⟩ (.int .i64 (1114111))).ownsRow w1.heap.size 44 2 (.slice (some ⟨g, 0, none⟩) (L + 1) c) (i ++ [(q1, 1114111)]).length (flat (i ++ [(q1, 1114111)]))) := by
              unfold Hid; rw [← hL]; exact own_setHi hown3
            rw [hL] at k1 k2 k3 hg3 hiL ⊢
            clear hL hown3 hcan k1 hol
            by_cases hj : q2 = x - 1
            · subst hj
              have HE : Hid (BoInv f (i ++ [(q1, 1114111)]) (cur E (k + 1))) := by
                unfold Hid; rw [HCN.out]
                have := HB.out.join hgt hmx (fun y h1 h2 => (GAP.out y h1 h2).trans HFF.out) rfl
                simpa using this
              have R2 := hb3.setCell (p := ⟨g, L * 2 + 1, none⟩) hg1 (.int .i64 (1114111))
              have R3 : (i ++ [(q1, 1114111)]).length ≤ k + 1 := by rw [List.length_append, HLL.out]; simp; omega
              clear HB hown5
              go_wp2
              go_roundw
              case rel => exact ⟨k + 1, i ++ [(q1, 1114111)], by omega, by go_num, R3, HE, hset, R2⟩
              case measure => simp [intOf]; omega
            · have HE : Hid (BoInv f (i ++ [(q1, q2)] ++ [(x, 1114111)]) (cur E (k + 1))) := by
                unfold Hid; rw [HCN.out]
                have := HB.out.new hx0 hgt hmx (fun y h1 h2 => (GAP.out y h1 h2).trans HFF.out) (fun i' q' e => by obtain ⟨_, rfl⟩ := snoc_inj e; exact hj)
                simpa using this
              have hje : (q2 == x - 1) = false := by simpa using hj
              clear HB hset hj
              go_wp2_with (at_builtin; refine wpList_append_own _ rfl _ _ 22 rfl w1.heap.size 44 i0 (.agg #[.int .i64 0, .int .i64 0]) 2 16 Tryz.underlying22 hi hz0 hz1 hz2 rfl (by decide) _ _ _ rfl (hown5.alloc _) ⟨w3.heap.size, 0, none⟩ 1 1 [.int .i64 x, .int .i64 (1114111)] rfl rfl ?c1 ?c2 ?c3 ?c4 ?c5 ?_)
              try (case c1 => exact one_new w3 _ _ _)
              case c2 => first | (intro u hu; simp at hu; rcases hu with rfl | rfl <;> rfl) | (refine ⟨?_, ?_⟩ <;> rfl)
              case c3 => unfold maxLen; omega
              case c4 => omega
              case c5 => first | omega | (simp; omega)
              · intro v' w4 hown4 hgrow _
                have R2 := Below.grown (hb3.alloc hs3 (.cells #[.int .i64 x, .int .i64 (1114111)] 44)) hgrow (by simp; omega) HW.out
                have R1 : w4.ownsRow w1.heap.size 44 2 v' (i ++ [(q1, q2)] ++ [(x, 1114111)]).length (flat (i ++ [(q1, q2)] ++ [(x, 1114111)])) := by
                  have e : (i ++ [(q1, q2)] ++ [(x, 1114111)]).length = L + 1 + 1 := by rw [List.length_append, List.length_append, HLL.out]; rfl
                  rw [e, flat_append (i ++ [(q1, q2)]), flat_two]; exact hown4
                have R3 : (i ++ [(q1, q2)] ++ [(x, 1114111)]).length ≤ k + 1 := by
                  have e : (i ++ [(q1, q2)] ++ [(x, 1114111)]).length = L + 1 + 1 := by rw [List.length_append, List.length_append, HLL.out]; rfl
                  rw [e]; omega
                clear hown4 hgrow
                go_wp2
                go_roundw
                case rel => exact ⟨k + 1, i ++ [(q1, q2)] ++ [(x, 1114111)], by omega, by go_num, R3, HE, R1, R2⟩
                case measure => simp [intOf]; omega
    · go_wp2
      go_ret
      refine ⟨_, out, rfl, own_mono hown hbs, ?_, hb1.trans (hbel.mono hbs)⟩
      have := HBo.out
      rw [cur_end (by rw [HEn.out]; omega)] at this
      exact this.done
end Go.Proofs.YtjbcapnpknbbaaaGreat.rng
end

section
/- What the document's Make, Union, Meet, Minus, Xor, Not, Can and Size answer. -/
set_option linter.unusedVariables false
set_option linter.unusedSimpArgs false
namespace Go.Proofs.YtjbcapnpknbbaaaGreat.rng
open Go.RowKit

theorem rmake_any (a1 : Option Addr) (c1 : Nat) (l : List R) (w : World) (hn : l.length ≤ 8796093021952) (h1 : RV w a1 l) (n1 : a1 = none → c1 = 0) :
    Calls Tryz.prog 98 #[.slice a1 l.length c1] w fun e w' => ∃ v r, e = .returned v ∧ Own w' w.heap.size v r ∧ IsSet r (has l) ∧ Below w.heap.size w w' := by
  have C := both_any a1 none c1 0 l [] 0 w (by omega) (by simpa using hn) h1 (RV.nil _ _) n1 (fun _ => rfl)
  have e0 : ([] : List R).length = 0 := rfl
  rw [e0] at C
  clear hn h1 n1 e0
  generalize l.length = n1 at *
  go_enter Tryz.func98, Tryz.ntmps98
  go_wp2_with fail
  refine C.mono ?_
  rintro e w1 ⟨v, r, rfl, ho, hs, hb⟩
  go_wp2
  go_ret
  exact ⟨v, r, rfl, ho, hs.congr (fun x _ => by simp [way, has_nil]), hb⟩
def rall : List R := [(0, 1114111)]
theorem has_rall (x : Int) : has rall x = code x := by
  unfold rall; rw [has_cons, has_nil, Bool.or_false]
  cases h : code x
  · rfl
  · rw [(inP_iff (0, 1114111) x).2 ((code_iff x).1 h)]; rfl
theorem rv_one (w : World) (x y : Int) : RV (w.alloc (.cells #[.int .i64 x, .int .i64 y] 44)) (some ⟨w.heap.size, 0, none⟩) [(x, y)] := by
  refine .inr ⟨_, _, rfl, fun i p hi => ?_⟩
  have h0 : i = 0 := by have := (List.getElem?_eq_some_iff.1 hi).1; simp at this; exact this
  subst h0
  simp at hi
  subst hi
  simp
/-- Is the list the set of itself. -/
theorem canB_of {l s : List R} (h : IsSet s (has l)) : canB 0 l = decide (s = l) := by
  rw [Bool.eq_iff_iff, canB_iff, decide_eq_true_eq]
  exact ⟨fun hc => h.eq (IsSet.self hc) (fun _ _ => rfl), fun e => e ▸ h.1⟩
theorem take_ne {l s : List R} {k : Nat} {a b : R} (h1 : l[k]? = some a) (h2 : s[k]? = some b) (h : b ≠ a) : s ≠ l := fun e => by
  rw [e, h1] at h2; cases h2; exact h rfl

set_option maxRecDepth 10000 in
set_option maxHeartbeats 1000000 in
theorem rcan_any (ao : Option Addr) (cap : Nat) (l : List R) (w : World) (hn : l.length ≤ 8796093021952) (hv : RV w ao l) (n1 : ao = none → cap = 0) :
    Calls Tryz.prog 85 #[.slice ao l.length cap] w fun e w' => e = .returned (.bool (canB 0 l)) ∧ Below w.heap.size w w' := by
  have C := rmake_any ao cap l w (by omega) hv n1
  have HV0 : Hid (RV w ao l) := hv
  obtain ⟨n0, hl0⟩ : ∃ n, l.length = n := ⟨_, rfl⟩
  rw [hl0] at hn C ⊢
  have HL0 : Hid (l.length = n0) := hl0
  clear hv n1 hl0
  go_enter Tryz.func85, Tryz.ntmps85
  go_wp2_with fail
  refine C.mono ?_
  rintro e w1 ⟨v1, s, rfl, ho1, hset, hb1⟩
  obtain ⟨a1, c1, rfl, hv1, hc1, hm1⟩ := Own.view ho1
  have HV : Hid (RV w1 a1 s) := hv1
  have HB : Hid (canB 0 l = decide (s = l)) := canB_of hset
  have hsn : s.length ≤ 1000000 := by have := can_len hset.1; omega
  obtain ⟨m, hl⟩ : ∃ m, s.length = m := ⟨_, rfl⟩
  rw [hl] at hsn ⊢
  have HL : Hid (s.length = m) := hl
  have hbs := hb1.size
  clear C ho1 hset hv1 hl hm1 hc1
  by_cases hne : m = n0
  · subst hne
    have hnn : ((m : Int) != (m : Int)) = false := by simp
    go_wp2
    go_loopw [14] (fun i wr => ∃ (k : Nat), k ≤ m ∧ i = .int .i64 k ∧ Hid (s.take k = l.take k) ∧ Below w1.heap.size w1 wr) (fun i _ => m - (intOf i).toNat)
    case atStart => exact ⟨0, Nat.zero_le _, rfl, rfl, Below.refl _ _⟩
    case round =>
      obtain ⟨k, hk, rfl, HT, hbel⟩ := hrel
      have hs1 := hbel.size
      by_cases hlt : k < m
      · obtain ⟨x, y, hp⟩ := get_lt HL.out hlt
        obtain ⟨x', y', hp'⟩ := get_lt HL0.out hlt
        obtain ⟨b, off, rfl, hc⟩ := (HV.out.below hbel).some (by have := HL.out; omega)
        obtain ⟨b', off', rfl, hc'⟩ := (HV0.out.below (hb1.trans (hbel.mono hbs))).some (by have := HL0.out; omega)
        obtain ⟨c1, c2⟩ := hc k (x, y) hp
        obtain ⟨c3, c4⟩ := hc' k (x', y') hp'
        simp only at c1 c2 c3 c4
        have HT2 : Hid (s.take (k + 1) = s.take k ++ [(x, y)]) := take_get hp
        have HT3 : Hid (l.take (k + 1) = l.take k ++ [(x', y')]) := take_get hp'
        by_cases hxy : x = x' ∧ y = y'
        · obtain ⟨rfl, rfl⟩ := hxy
          have HE : Hid (s.take (k + 1) = l.take (k + 1)) := by unfold Hid; rw [HT2.out, HT3.out, HT.out]
          clear hc hc' hp hp' HT HT2 HT3
          go_wp2
          go_quiet (fail)
          go_wp2
          go_roundw
          case rel => exact ⟨k + 1, by omega, by go_num, HE, below_drewN hbel _⟩
          case measure => simp [intOf]; omega
        · have HE : Hid (canB 0 l = false) := by
            unfold Hid; rw [HB.out]
            exact decide_eq_false (take_ne hp' hp (fun e => hxy (by cases e; exact ⟨rfl, rfl⟩)))
          clear hc hc' hp hp' HT HT2 HT3
          by_cases hxx : x' = x
          · have hyy : (y' == y) = false := by
              have : y' ≠ y := fun e => hxy ⟨hxx.symm, e.symm⟩
              simpa using this
            subst hxx
            clear hxy
            go_wp2
            go_quiet (fail)
            go_wp2
            go_ret
            exact ⟨ret_bool HE.out.symm, hb1.trans (below_drewN (hbel.mono hbs) _)⟩
          · have hxx' : (x' == x) = false := by simpa using hxx
            clear hxy hxx
            go_wp2
            go_quiet (fail)
            go_wp2
            go_ret
            exact ⟨ret_bool HE.out.symm, hb1.trans (below_drewN (hbel.mono hbs) _)⟩
      · go_wp2
        go_ret
        have e1 : s.take k = s := List.take_of_length_le (by have := HL.out; omega)
        have e2 : l.take k = l := List.take_of_length_le (by have := HL0.out; omega)
        refine ⟨ret_bool ?_, hb1.trans (hbel.mono hbs)⟩
        rw [HB.out, decide_eq_true (by rw [← e1, HT.out, e2])]
  · have hnn : ((m : Int) != (n0 : Int)) = true := by simp; omega
    have HE : Hid (canB 0 l = false) := by
      unfold Hid; rw [HB.out]
      exact decide_eq_false (fun e => hne (by rw [← HL.out, e, HL0.out]))
    go_wp2
    go_ret
    exact ⟨ret_bool HE.out.symm, hb1⟩
end Go.Proofs.YtjbcapnpknbbaaaGreat.rng
end
