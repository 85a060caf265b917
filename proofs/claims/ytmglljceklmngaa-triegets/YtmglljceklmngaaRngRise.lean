/- What ranges.rising answers: the ranges that mean something, cut to code points, by their beginnings. -/
import Derived.Test.YtmglljceklmngaaRngSort
set_option linter.unusedVariables false
set_option linter.unusedSimpArgs false
namespace Go.Proofs.Ytmglljceklmngaa.rng
open Go.RowKit

theorem two_new (w : World) (o : Obj) (x y : Value) (t : TypeId) : ∀ (j : Nat) (u : Value), [x, y][j]? = some u → ((w.alloc o).alloc (Obj.cells #[x, y] t)).cell? ((⟨w.heap.size + 1, 0, none⟩ : Addr).add j) = some u := by
  intro j u hj
  match j, hj with
  | 0, hj => simp at hj; subst hj; simp [Addr.add]
  | 1, hj => simp at hj; subst hj; simp [Addr.add]
  | k + 2, hj => simp at hj
theorem flat_two (x y : Int) : flat [(x, y)] = [.int .i64 x, .int .i64 y] := rfl

set_option maxHeartbeats 2000000 in
theorem rise_any (ao : Option Addr) (cap : Nat) (l : List R) (w : World) (hn : l.length ≤ 2000000) (hv : RV w ao l) :
    Calls Try.prog 44 #[.slice ao l.length cap] w fun e w' => ∃ v s, e = .returned v ∧ Own w' w.heap.size v s ∧ s.Perm (usable l) ∧ s.Pairwise (fun a b => a.1 ≤ b.1) ∧ Below w.heap.size w w' := by
  obtain ⟨i0, hi, hz0, hz1, hz2⟩ := info_parts infoRange
  have HV : Hid (RV w ao l) := hv
  obtain ⟨n, hl⟩ : ∃ n, l.length = n := ⟨_, rfl⟩
  rw [hl] at hn ⊢
  have HL : Hid (l.length = n) := hl
  clear hv hl
  obtain ⟨w1, hmk, hown1, hg1⟩ := run_make_own (P := Try.prog) w w.heap.size 41 43 i0 _ 2 Try.underlying41 hi hz0 hz1 .i64 .i64 n (by rw [hz2]; omega) (by unfold maxLen; omega) (Nat.le_refl _)
  have hb1 := (Below.refl w.heap.size w).grown hg1 (Nat.le_refl _) (fun k e => by cases e)
  have HO1 : Hid (w1.ownsRow w.heap.size 43 2 (.slice (some ⟨w.heap.size, 0, none⟩) 0 n) 0 []) := hown1
  clear hown1 hg1
  go_enter Try.func44, Try.ntmps44
  go_wp2
  go_loopw [3, 11] (fun v i wr => ∃ (k : Nat) (s : List R), k ≤ n ∧ i = .int .i64 k ∧ s.length ≤ k ∧ Hid (s = usable (l.take k)) ∧ Hid (∃ g c, v = .slice (some ⟨g, 0, none⟩) s.length c) ∧ wr.ownsRow w.heap.size 43 2 v s.length (flat s) ∧ Below w.heap.size w wr) (fun _ i _ => n - (intOf i).toNat)
  case atStart => exact ⟨0, [], Nat.zero_le _, rfl, Nat.le_refl _, rfl, ⟨_, _, rfl⟩, HO1, hb1⟩
  case round =>
    obtain ⟨k, s, hk, rfl, hsk, HS, HF, hown, hbel⟩ := hrel
    clear hmk HO1 hb1
    have hs1 := hbel.size
    by_cases hlt : k < n
    · obtain ⟨x, y, hp⟩ := get_lt HL.out hlt
      obtain ⟨b, off, rfl, hc⟩ := (HV.out.below hbel).some (by have := HL.out; omega)
      obtain ⟨c1, c2⟩ := hc k (x, y) hp
      simp only at c1 c2
      have HN : Hid (usable (l.take (k + 1)) = usable (l.take k) ++ (if max x 0 ≤ min y 1114111 then [(max x 0, min y 1114111)] else [])) := by
        unfold Hid; rw [take_get hp, usable_snoc]; rfl
      clear hc hp
      by_cases ht : max x 0 ≤ min y 1114111
      · have HE : Hid (s ++ [(max x 0, min y 1114111)] = usable (l.take (k + 1))) := by
          unfold Hid; rw [HN.out, if_pos ht, ← HS.out]
        have HW : Hid (∀ j, u3.ownBlock = some j → w.heap.size ≤ j) := fun j e => (hown.lt _ e).1
        clear HN HS
        go_wp2_with (at_builtin; refine wpList_append_own _ rfl _ _ 41 rfl w.heap.size 43 i0 (.agg #[.int .i64 0, .int .i64 0]) 2 16 Try.underlying41 hi hz0 hz1 hz2 rfl (by decide) _ _ _ rfl ((hown.alloc _).alloc _) ⟨wr.heap.size + 1, 0, none⟩ 1 1 [.int .i64 (max x 0), .int .i64 (min y 1114111)] rfl rfl ?c1 ?c2 ?c3 ?c4 ?c5 ?_)
        case c1 => exact two_new wr _ _ _ _
        case c2 => intro u hu; simp at hu; rcases hu with rfl | rfl <;> rfl
        case c3 => unfold maxLen; omega
        case c4 => omega
        case c5 => simp; omega
        · intro v' w2 hown2 hgrow _
          have R2 := Below.grown ((hbel.alloc hs1 (.cells #[.int .i64 (max x 0), .int .i64 (min y 1114111)] 43)).alloc (by simp; omega) (.cells #[.int .i64 (max x 0), .int .i64 (min y 1114111)] 43)) hgrow (by simp; omega) HW.out
          have R1 : w2.ownsRow w.heap.size 43 2 v' (s ++ [(max x 0, min y 1114111)]).length (flat (s ++ [(max x 0, min y 1114111)])) := by
            rw [flat_append, flat_two, List.length_append]; exact hown2
          have R3 : Hid (∃ g c, v' = .slice (some ⟨g, 0, none⟩) (s ++ [(max x 0, min y 1114111)]).length c) := by
            rcases R1.2 with ⟨_, h0⟩ | ⟨g, c, _, e, _⟩
            · simp at h0
            · exact ⟨g, c, e⟩
          clear hown2 hgrow hown hbel
          go_wp2
          go_roundw
          case rel => exact ⟨k + 1, s ++ [(max x 0, min y 1114111)], by omega, by go_num, by simp; omega, HE, R3, R1, R2⟩
          case measure => simp [intOf]; omega
      · have HE : Hid (s = usable (l.take (k + 1))) := by
          unfold Hid; rw [HN.out, if_neg ht, List.append_nil, ← HS.out]
        have R1 := hown.alloc (.cells #[.int .i64 (max x 0), .int .i64 (min y 1114111)] 43)
        have R2 := hbel.alloc hs1 (.cells #[.int .i64 (max x 0), .int .i64 (min y 1114111)] 43)
        clear HN HS
        go_wp2
        go_roundw
        case rel => exact ⟨k + 1, s, by omega, by go_num, by omega, HE, HF, R1, R2⟩
        case measure => simp [intOf]; omega
    · have HU : Hid (s = usable l) := by
        unfold Hid; rw [HS.out, List.take_of_length_le (by have := HL.out; omega)]
      obtain ⟨g, c, rfl⟩ := HF.out
      have C := sort_any g c w.heap.size s wr hown hs1 (by omega)
      have HO : Hid (wr.ownsRow w.heap.size 43 2 (.slice (some ⟨g, 0, none⟩) s.length c) s.length (flat s)) := hown
      clear HS HF hown
      generalize s.length = m at *
      go_wp2_with fail
      refine C.mono ?_
      rintro e w2 ⟨rfl, t, t1, t2, t3, t4⟩
      have HT : Hid (t.Perm s) := t1
      have HT2 : Hid (t.Pairwise (fun a b : R => a.1 ≤ b.1)) := t2
      have HT3 : Hid (Own w2 w.heap.size (.slice (some ⟨g, 0, none⟩) m c) t) := t3
      clear t1 t2 t3 C
      go_wp2
      go_ret
      exact ⟨_, t, rfl, HT3.out, HU.out ▸ HT.out, HT2.out, hbel.trans t4⟩
end Go.Proofs.Ytmglljceklmngaa.rng
