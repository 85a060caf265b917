/- What ranges.Make answers: the set that a list means. -/
import Derived.Test.YtmglljceklmngaaRngRise
import Derived.Deep.RegionWith
set_option linter.unusedVariables false
set_option linter.unusedSimpArgs false
namespace Go.Proofs.Ytmglljceklmngaa.rng
open Go.RowKit

theorem one_new (w : World) (x y : Value) (t : TypeId) : ∀ (j : Nat) (u : Value), [x, y][j]? = some u → (w.alloc (Obj.cells #[x, y] t)).cell? ((⟨w.heap.size, 0, none⟩ : Addr).add j) = some u := by
  intro j u hj
  match j, hj with
  | 0, hj => simp at hj; subst hj; simp [Addr.add]
  | 1, hj => simp at hj; subst hj; simp [Addr.add]
  | k + 2, hj => simp at hj
/-- The last range of a row of the call's own. -/
theorem own_last {w : World} {B : Nat} {v : Value} {i : List R} {q : R} (h : w.ownsRow B 43 2 v (i ++ [q]).length (flat (i ++ [q]))) :
    ∃ g c, v = .slice (some ⟨g, 0, none⟩) (i.length + 1) c ∧ B ≤ g ∧ g < w.heap.size ∧ i.length + 1 ≤ c ∧ c ≤ maxLen ∧ w.cell? ⟨g, i.length * 2, none⟩ = some (.int .i64 q.1) ∧ w.cell? ⟨g, i.length * 2 + 1, none⟩ = some (.int .i64 q.2) ∧ w.frozen? ⟨g, i.length * 2 + 1, none⟩ = false := by
  have hl : (i ++ [q]).length = i.length + 1 := by simp
  rcases h.2 with ⟨_, h0⟩ | ⟨g, c, cur, rfl, hg, hgg, hc, hm, _⟩
  · rw [hl] at h0; omega
  · have hq : (i ++ [q])[i.length]? = some q := by simp
    obtain ⟨e1, e2⟩ := flat_get _ _ _ hq
    exact ⟨g, c, by rw [hl], hg, (Array.getElem?_eq_some_iff.1 hgg).1, by omega, hm, (h.cellAt _ (by omega)).trans e1, (h.cellAt _ (by omega)).trans e2, h.frozenAt _⟩
theorem flat_set (i : List R) (a b c : Int) : (flat (i ++ [(a, b)])).set (i.length * 2 + 1) (.int .i64 c) = flat (i ++ [(a, c)]) := by
  have hl := flat_length i
  rw [flat_append, flat_append, List.set_append, if_neg (by omega), hl, show i.length * 2 + 1 - i.length * 2 = 1 by omega]; rfl
theorem own_mono {w : World} {base base' : Nat} {e : TypeId} {size : Nat} {v : Value} {n : Nat} {xs : List Value} (h : w.ownsRow base e size v n xs) (hb : base' ≤ base) : w.ownsRow base' e size v n xs :=
  ⟨h.1, h.2.imp id fun ⟨g, c, cur, e1, e2, r⟩ => ⟨g, c, cur, e1, Nat.le_trans hb e2, r⟩⟩
theorem own_setHi {w : World} {B g c : Nat} {i : List R} {a b e : Int} (h : w.ownsRow B 43 2 (.slice (some ⟨g, 0, none⟩) (i.length + 1) c) (i ++ [(a, b)]).length (flat (i ++ [(a, b)]))) :
    (w.setCell ⟨g, i.length * 2 + 1, none⟩ (.int .i64 e)).ownsRow B 43 2 (.slice (some ⟨g, 0, none⟩) (i.length + 1) c) (i ++ [(a, e)]).length (flat (i ++ [(a, e)])) := by
  have hl : (i ++ [(a, b)]).length = i.length + 1 := by simp
  have hl' : (i ++ [(a, e)]).length = i.length + 1 := by simp
  rw [hl] at h
  rw [hl']
  have := (h.stored (i.length * 2 + 1) (.int .i64 e)).1
  rwa [flat_set] at this

set_option maxHeartbeats 2000000 in
theorem make_any (ao : Option Addr) (cap : Nat) (l : List R) (w : World) (hn : l.length ≤ 2000000) (hv : RV w ao l) :
    Calls Try.prog 34 #[.slice ao l.length cap] w fun e w' => ∃ v r, e = .returned v ∧ Own w' w.heap.size v r ∧ IsSet r (has l) ∧ Below w.heap.size w w' := by
  obtain ⟨i0, hi, hz0, hz1, hz2⟩ := info_parts infoRange
  have C := rise_any ao cap l w hn hv
  have HN : Hid (l.length ≤ 2000000) := hn
  clear hn hv
  generalize l.length = n0 at C ⊢
  go_enter Try.func34, Try.ntmps34
  go_wp2_with fail
  refine C.mono ?_
  rintro e w1 ⟨v1, s, rfl, ho1, hp, hs, hb1⟩
  obtain ⟨a1, c1, rfl, hv1, hc1, hm1⟩ := Own.view ho1
  have HV : Hid (RV w1 a1 s) := hv1
  have HI : Hid (MkInv (s.take 0) [] (s.drop 0)) := by
    unfold Hid; rw [List.take_zero, List.drop_zero]
    exact MkInv.start hs (fun y hy => usable_mem y (hp.mem_iff.1 hy))
  have HM : Hid (∀ x, has s x = has l x) := fun x => (has_perm hp x).trans (has_usable l x)
  have hsn : s.length ≤ 2000000 := by have := hp.length_eq; have := usable_length l; have := HN.out; omega
  obtain ⟨m, hl⟩ : ∃ m, s.length = m := ⟨_, rfl⟩
  rw [hl] at hsn hc1 ⊢
  have HL : Hid (s.length = m) := hl
  have hbs := hb1.size
  clear C HN ho1 hp hs hv1 hl hm1 hc1
  go_wp2
  go_loopw [3, 10] (fun v i wr => ∃ (k : Nat) (out : List R), k ≤ m ∧ i = .int .i64 k ∧ out.length ≤ k ∧ Hid (MkInv (s.take k) out (s.drop k)) ∧ wr.ownsRow w1.heap.size 43 2 v out.length (flat out) ∧ Below w1.heap.size w1 wr) (fun _ i _ => m - (intOf i).toNat)
  case atStart => exact ⟨0, [], Nat.zero_le _, rfl, Nat.le_refl _, HI, World.ownsRow_nil _ _ _ _, Below.refl _ _⟩
  case round =>
    obtain ⟨k, out, hk, rfl, hok, HK, hown, hbel⟩ := hrel
    clear HI
    have hs1 := hbel.size
    by_cases hlt : k < m
    · obtain ⟨x, y, hp⟩ := get_lt HL.out hlt
      obtain ⟨b, off, rfl, hc⟩ := (HV.out.below hbel).some (by have := HL.out; omega)
      obtain ⟨c1, c2⟩ := hc k (x, y) hp
      simp only at c1 c2
      have HD : Hid (MkInv (s.take k) out ((x, y) :: s.drop (k + 1))) := by
        unfold Hid; rw [← drop_get hp]; exact HK.out
      have HT : Hid (s.take (k + 1) = s.take k ++ [(x, y)]) := take_get hp
      have hx := HD.out.good (x, y) (by simp)
      simp only at hx
      obtain ⟨hx0, hxy, hy1⟩ := hx
      clear hc hp HK
      have HW : Hid (∀ j, u3.ownBlock = some j → w1.heap.size ≤ j) := fun j e => (hown.lt _ e).1
      rcases List.eq_nil_or_concat out with rfl | ⟨i, q, rfl⟩
      · have HE : Hid (MkInv (s.take (k + 1)) ([] ++ [(x, y)]) (s.drop (k + 1))) := by
          unfold Hid; rw [HT.out]; exact HD.out.new (fun i q e => by simp at e)
        have hu3 : u3 = .slice none 0 0 ∨ ∃ g c, u3 = .slice (some ⟨g, 0, none⟩) 0 c := by
          rcases hown.2 with ⟨e, _⟩ | ⟨g, c, _, e, _⟩
          · exact .inl e
          · exact .inr ⟨g, c, e⟩
        clear HD HT
        have hl0 : decide ((-1 : Int) < 0) = true := by decide
        obtain ⟨ua, uc, rfl⟩ : ∃ ua uc, u3 = .slice ua 0 uc := by
          rcases hu3 with rfl | ⟨g, c, rfl⟩ <;> exact ⟨_, _, rfl⟩
        clear hu3
        have hown' : wr.ownsRow w1.heap.size 43 2 (.slice ua 0 uc) 0 [] := hown
        clear hown
        go_wp2
        go_quiet (fail)
        generalize hwq : (World.drewN _ _) = wq at *
        have O2 : wq.ownsRow w1.heap.size 43 2 (.slice ua 0 uc) 0 [] := by rw [← hwq]; exact hown'.alloc _
        have B2 : Below w1.heap.size w1 wq := by rw [← hwq]; exact below_drewN (hbel.alloc hs1 _) _
        have f0 : wq.cell? ⟨wr.heap.size, 0, none⟩ = some (.int .i64 x) := by rw [← hwq]; simp
        have f1 : wq.cell? ⟨wr.heap.size, 1, none⟩ = some (.int .i64 y) := by rw [← hwq]; simp
        clear hwq hbel hown' c1 c2
        have hs2 := B2.size
        go_wp2_with (at_builtin; refine wpList_append_own _ rfl _ _ 41 rfl w1.heap.size 43 i0 (.agg #[.int .i64 0, .int .i64 0]) 2 16 Try.underlying41 hi hz0 hz1 hz2 rfl (by decide) _ _ _ rfl (O2.alloc _) ⟨wq.heap.size, 0, none⟩ 1 1 [.int .i64 x, .int .i64 y] rfl rfl ?c1 ?c2 ?c3 ?c4 ?c5 ?_)
        case c1 => exact one_new wq _ _ _
        case c2 => intro u hu; simp at hu; rcases hu with rfl | rfl <;> rfl
        case c3 => unfold maxLen; omega
        case c4 => omega
        case c5 => simp; omega
        · intro v' w2 hown2 hgrow _
          have R2 := Below.grown (B2.alloc hs2 (.cells #[.int .i64 x, .int .i64 y] 43)) hgrow (by simp; omega) HW.out
          have R1 : w2.ownsRow w1.heap.size 43 2 v' ([] ++ [(x, y)]).length (flat ([] ++ [(x, y)])) := hown2
          clear hown2 hgrow
          go_wp2
          go_roundw
          case rel => exact ⟨k + 1, [] ++ [(x, y)], by omega, by go_num, by simp, HE, R1, R2⟩
          case measure => simp [intOf]; omega
      · rw [List.concat_eq_append] at *
        obtain ⟨q1, q2⟩ := q
        have hcan := (can_snoc _ _ _).1 HD.out.can
        obtain ⟨g, c, rfl, hg1, hg2, hg3, hg4, k1, k2, k3⟩ := own_last hown
        simp only at k1 k2
        have k2' : ∀ o, (wr.alloc o).cell? ⟨g, i.length * 2 + 1, none⟩ = some (.int .i64 q2) := fun o => (World.cell?_alloc_past o g _ hg2).trans k2
        have hq0 : -2 ≤ q2 := by have := nxt_ge i 0 hcan.1; have := hcan.2; simp only at this; omega
        have hq1 : q2 ≤ 1114111 := hcan.2.2.2
        have HO : Hid (wr.ownsRow w1.heap.size 43 2 (.slice (some ⟨g, 0, none⟩) (i.length + 1) c) (i ++ [(q1, q2)]).length (flat (i ++ [(q1, q2)]))) := hown
        have hiL : i.length + 1 ≤ k := by simpa using hok
        clear hown hcan k1 hok
        unfold maxLen at hg4
        obtain ⟨L, hL⟩ : ∃ L, i.length = L := ⟨_, rfl⟩
        rw [hL] at k2 k2' k3 hg3 hiL
        have HLL : Hid (i.length = L) := hL
        rw [hL]
        clear hL
        have hl0 : decide ((L : Int) < 0) = false := decide_eq_false (by omega)
        by_cases ht : q2 + 1 < x
        · have ht' : decide (q2 + 1 < x) = true := by simpa using ht
          have HE : Hid (MkInv (s.take (k + 1)) ((i ++ [(q1, q2)]) ++ [(x, y)]) (s.drop (k + 1))) := by
            unfold Hid; rw [HT.out]; exact HD.out.new (fun i' q' e => by obtain ⟨_, rfl⟩ := snoc_inj e; exact ht)
          clear HD HT
          go_wp2
          go_quiet (fail)
          generalize hwq : (World.drewN _ _) = wq at *
          have O2 : wq.ownsRow w1.heap.size 43 2 (.slice (some ⟨g, 0, none⟩) (L + 1) c) (i ++ [(q1, q2)]).length (flat (i ++ [(q1, q2)])) := by rw [← hwq, ← HLL.out]; exact HO.out.alloc _
          have B2 : Below w1.heap.size w1 wq := by rw [← hwq]; exact below_drewN (hbel.alloc hs1 _) _
          have f0 : wq.cell? ⟨wr.heap.size, 0, none⟩ = some (.int .i64 x) := by rw [← hwq]; simp
          have f1 : wq.cell? ⟨wr.heap.size, 1, none⟩ = some (.int .i64 y) := by rw [← hwq]; simp
          have hl2 : (i ++ [(q1, q2)]).length = L + 1 := by rw [List.length_append, HLL.out]; rfl
          rw [hl2] at O2
          have HL2 : Hid ((i ++ [(q1, q2)]).length = L + 1) := hl2
          clear hwq hbel HO c1 c2 k2 k2' k3 hl2
          have hs2 := B2.size
          go_wp2_with (at_builtin; refine wpList_append_own _ rfl _ _ 41 rfl w1.heap.size 43 i0 (.agg #[.int .i64 0, .int .i64 0]) 2 16 Try.underlying41 hi hz0 hz1 hz2 rfl (by decide) _ _ _ rfl (O2.alloc _) ⟨wq.heap.size, 0, none⟩ 1 1 [.int .i64 x, .int .i64 y] rfl rfl ?c1 ?c2 ?c3 ?c4 ?c5 ?_)
          case c1 => exact one_new wq _ _ _
          case c2 => intro u hu; simp at hu; rcases hu with rfl | rfl <;> rfl
          case c3 => unfold maxLen; omega
          case c4 => omega
          case c5 => simp; omega
          · intro v' w2 hown2 hgrow _
            have R2 := Below.grown (B2.alloc hs2 (.cells #[.int .i64 x, .int .i64 y] 43)) hgrow (by simp; omega) HW.out
            have R1 : w2.ownsRow w1.heap.size 43 2 v' ((i ++ [(q1, q2)]) ++ [(x, y)]).length (flat ((i ++ [(q1, q2)]) ++ [(x, y)])) := by
              rw [flat_append (i ++ [(q1, q2)]), flat_two, List.length_append, HL2.out]; exact hown2
            have hk1 : ((i ++ [(q1, q2)]) ++ [(x, y)]).length ≤ k + 1 := by rw [List.length_append, HL2.out]; simp; omega
            clear hown2 hgrow
            go_wp2
            go_roundw
            case rel => exact ⟨k + 1, (i ++ [(q1, q2)]) ++ [(x, y)], by omega, by go_num, hk1, HE, R1, R2⟩
            case measure => simp [intOf]; omega
        · have ht' : decide (q2 + 1 < x) = false := by simpa using ht
          have HE : Hid (MkInv (s.take (k + 1)) (i ++ [(q1, max q2 y)]) (s.drop (k + 1))) := by
            unfold Hid; rw [HT.out]; exact HD.out.join (by simp only; omega)
          have k3' : ∀ o, (wr.alloc o).frozen? ⟨g, L * 2 + 1, none⟩ = false := fun o => by rw [← k3]; exact (World.frozen?_of_block (w := wr) (Below.heap_alloc wr o g hg2))
          clear HD HT
          go_wp2
          go_quiet (fail)
          generalize hwq : (World.drewN _ _) = wq at *
          have O2 : wq.ownsRow w1.heap.size 43 2 (.slice (some ⟨g, 0, none⟩) (i.length + 1) c) (i ++ [(q1, q2)]).length (flat (i ++ [(q1, q2)])) := by rw [← hwq]; exact HO.out.alloc _
          have B2 : Below w1.heap.size w1 wq := by rw [← hwq]; exact below_drewN (hbel.alloc hs1 _) _
          have f0 : wq.cell? ⟨wr.heap.size, 0, none⟩ = some (.int .i64 x) := by rw [← hwq]; simp
          have f1 : wq.cell? ⟨wr.heap.size, 1, none⟩ = some (.int .i64 y) := by rw [← hwq]; simp
          have f2 : wq.cell? ⟨g, L * 2 + 1, none⟩ = some (.int .i64 q2) := by rw [← hwq]; exact k2' _
          have f3 : wq.frozen? ⟨g, L * 2 + 1, none⟩ = false := by rw [← hwq]; exact k3' _
          have R1 : Hid ((wq.setCell ⟨g, L * 2 + 1, none⟩ (.int .i64 (max q2 y))).drew.ownsRow w1.heap.size 43 2 (.slice (some ⟨g, 0, none⟩) (L + 1) c) (i ++ [(q1, max q2 y)]).length (flat (i ++ [(q1, max q2 y)]))) := by
            unfold Hid; rw [← HLL.out]; exact own_setHi (w := wq) O2
          have R2 : Hid (Below w1.heap.size w1 (wq.setCell ⟨g, L * 2 + 1, none⟩ (.int .i64 (max q2 y))).drew) := (B2.setCell hg1 _).drew
          have hk1 : (i ++ [(q1, max q2 y)]).length ≤ k + 1 := by rw [List.length_append, HLL.out]; simp; omega
          have e5 : (0 : Int) ≤ (L : Int) := by omega
          have e6 : (L : Int) < (L : Int) + 1 := by omega
          have e9 : IntKind.i64.wrap (L : Int) = (L : Int) := by rw [IntKind.wrap_i64]; omega
          clear hwq hbel HO O2 B2 c1 c2 k2 k2' k3 k3'
          go_wp2
          go_region_with (fail)
          all_goals go_wp2
          all_goals exact ⟨⟨k + 1, i ++ [(q1, max q2 y)], by omega, by go_num, hk1, HE, R1, R2⟩, by simp [intOf]; omega⟩
    · go_wp2
      go_ret
      refine ⟨_, out, rfl, own_mono hown hbs, ?_, hb1.trans (hbel.mono hbs)⟩
      have := HK.out
      rw [List.drop_of_length_le (by have := HL.out; omega), List.take_of_length_le (by have := HL.out; omega)] at this
      exact (MkInv.done this).congr (fun x _ => HM.out x)
end Go.Proofs.Ytmglljceklmngaa.rng
