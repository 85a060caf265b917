/- What trie.usable and the document's Entries answer: the entries that play a part; what the document's Get answers: the last one's value. -/
import Derived.Test.YtmglljceklmngaaTriMem
set_option linter.unusedVariables false
set_option linter.unusedSimpArgs false
namespace Go.Proofs.Ytmglljceklmngaa.tri
open Go.RowKit
open Go.Proofs.Ytmglljceklmngaa.rng (ret_int ret_bool below_drewN info_parts own_below')

theorem good_iff (n : Int) (x y z : Int) : good n (clip (x, y, z)) = true ↔ max x 0 ≤ min y 1114111 ∧ 0 ≤ z ∧ z < n := by
  unfold good
  rw [Bool.and_eq_true, Bool.and_eq_true]
  exact ⟨fun h => ⟨of_decide_eq_true h.1.1, of_decide_eq_true h.1.2, of_decide_eq_true h.2⟩, fun h => ⟨⟨decide_eq_true h.1, decide_eq_true h.2.1⟩, decide_eq_true h.2.2⟩⟩

set_option maxHeartbeats 1000000 in
theorem use_any (ao : Option Addr) (cap : Nat) (l : List E) (nv : Int) (w : World) (hn : l.length ≤ 1000000) (hv : EV w ao l) :
    Calls Try.prog 29 #[.slice ao l.length cap, .int .i64 nv] w fun e w' => ∃ g c, e = .returned (.slice (some ⟨g, 0, none⟩) (use nv l).length c) ∧ Own w' w.heap.size (.slice (some ⟨g, 0, none⟩) (use nv l).length c) (use nv l) ∧ Below w.heap.size w w' := by
  obtain ⟨i0, hi, hz0, hz1, hz2⟩ := info_parts infoEntry
  have HV : Hid (EV w ao l) := hv
  obtain ⟨n, hl⟩ : ∃ n, l.length = n := ⟨_, rfl⟩
  rw [hl] at hn ⊢
  have HL : Hid (l.length = n) := hl
  clear hv hl
  obtain ⟨w1, hmk, hown1, hg1⟩ := run_make_own (P := Try.prog) w w.heap.size 22 27 i0 _ 3 Try.underlying22 hi hz0 hz1 .i64 .i64 n (by rw [hz2]; omega) (by unfold maxLen; omega) (Nat.le_refl _)
  have hb1 := (Below.refl w.heap.size w).grown hg1 (Nat.le_refl _) (fun k e => by cases e)
  have HO1 : Hid (w1.ownsRow w.heap.size 27 3 (.slice (some ⟨w.heap.size, 0, none⟩) 0 n) 0 []) := hown1
  clear hown1 hg1
  go_enter Try.func29, Try.ntmps29
  go_wp2
  go_loopw [5, 13] (fun v i wr => ∃ (k : Nat) (s : List E), k ≤ n ∧ i = .int .i64 k ∧ s.length ≤ k ∧ Hid (s = use nv (l.take k)) ∧ Hid (∃ g c, v = .slice (some ⟨g, 0, none⟩) s.length c) ∧ wr.ownsRow w.heap.size 27 3 v s.length (flat s) ∧ Below w.heap.size w wr) (fun _ i _ => n - (intOf i).toNat)
  case atStart => exact ⟨0, [], Nat.zero_le _, rfl, Nat.le_refl _, rfl, ⟨_, _, rfl⟩, HO1, hb1⟩
  case round =>
    obtain ⟨k, s, hk, rfl, hsk, HS, HF, hown, hbel⟩ := hrel
    clear hmk HO1 hb1
    have hs1 := hbel.size
    by_cases hlt : k < n
    · obtain ⟨x, y, z, hp⟩ := get3 HL.out hlt
      obtain ⟨b, off, rfl, hc⟩ := (HV.out.below hbel).some (by have := HL.out; omega)
      obtain ⟨c1, c2, c3⟩ := hc k (x, y, z) hp
      simp only at c1 c2 c3
      obtain ⟨p, hpx⟩ : ∃ p : Int, (if x < 0 then (0 : Int) else x) = p := ⟨_, rfl⟩
      obtain ⟨q, hqy⟩ : ∃ q : Int, (if 1114111 < y then (1114111 : Int) else y) = q := ⟨_, rfl⟩
      have hpm : max x 0 = p := by rw [← hpx]; split <;> omega
      have hqm : min y 1114111 = q := by rw [← hqy]; split <;> omega
      have HN : Hid (use nv (l.take (k + 1)) = use nv (l.take k) ++ (if good nv (clip (x, y, z)) = true then [(p, q, z)] else [])) := by
        unfold Hid; rw [takeX hp, use_snoc, ← hpm, ← hqm]; rfl
      have HG : Hid (good nv (clip (x, y, z)) = true ↔ p ≤ q ∧ 0 ≤ z ∧ z < nv) := by unfold Hid; rw [good_iff, hpm, hqm]
      clear hc hp hpm hqm
      have R1 := hown.alloc (.cells #[.int .i64 p, .int .i64 q, .int .i64 z] 27)
      have R2 := hbel.alloc hs1 (.cells #[.int .i64 p, .int .i64 q, .int .i64 z] 27)
      have no : good nv (clip (x, y, z)) ≠ true → Hid (s = use nv (l.take (k + 1))) := fun h => by
        unfold Hid; rw [HN.out, if_neg h, List.append_nil, ← HS.out]
      have HNO : Hid (good nv (clip (x, y, z)) ≠ true → Hid (s = use nv (l.take (k + 1)))) := no
      clear no
      by_cases t1 : p ≤ q
      · by_cases t2 : 0 ≤ z
        · by_cases t3 : z < nv
          · have HE : Hid (s ++ [(p, q, z)] = use nv (l.take (k + 1))) := by
              unfold Hid; rw [HN.out, if_pos (HG.out.2 ⟨t1, t2, t3⟩), ← HS.out]
            have HW : Hid (∀ j, u5.ownBlock = some j → w.heap.size ≤ j) := fun j e => (hown.lt _ e).1
            clear HN HS HNO R1 R2
            go_wp2_with (at_builtin; refine wpList_append_own _ rfl _ _ 22 rfl w.heap.size 27 i0 (.agg #[.int .i64 0, .int .i64 0, .int .i64 0]) 3 24 Try.underlying22 hi hz0 hz1 hz2 rfl (by decide) _ _ _ rfl ((hown.alloc _).alloc _) ⟨wr.heap.size + 1, 0, none⟩ 1 1 [.int .i64 p, .int .i64 q, .int .i64 z] rfl rfl ?c1 ?c2 ?c3 ?c4 ?c5 ?_)
            case c1 => exact two_new wr _ _ _ _ _
            case c2 => intro u hu; simp at hu; rcases hu with rfl | rfl | rfl <;> rfl
            case c3 => unfold maxLen; omega
            case c4 => omega
            case c5 => simp; omega
            · intro v' w2 hown2 hgrow _
              have R2 := Below.grown ((hbel.alloc hs1 (.cells #[.int .i64 p, .int .i64 q, .int .i64 z] 27)).alloc (by simp; omega) (.cells #[.int .i64 p, .int .i64 q, .int .i64 z] 27)) hgrow (by simp; omega) HW.out
              have R1 : w2.ownsRow w.heap.size 27 3 v' (s ++ [(p, q, z)]).length (flat (s ++ [(p, q, z)])) := by
                rw [flat_append, flat_three, List.length_append]; exact hown2
              have R3 : Hid (∃ g c, v' = .slice (some ⟨g, 0, none⟩) (s ++ [(p, q, z)]).length c) := by
                rcases R1.2 with ⟨_, h0⟩ | ⟨g, c, _, e, _⟩
                · simp at h0
                · exact ⟨g, c, e⟩
              clear hown2 hgrow hown hbel
              go_wp2
              go_roundw
              case rel => exact ⟨k + 1, s ++ [(p, q, z)], by omega, by go_num, by simp; omega, HE, R3, R1, R2⟩
              case measure => simp [intOf]; omega
          · have HE : Hid (s = use nv (l.take (k + 1))) := HNO.out (fun h => t3 (HG.out.1 h).2.2)
            clear HN HS HNO
            go_wp2
            go_roundw
            case rel => exact ⟨k + 1, s, by omega, by go_num, by omega, HE, HF, R1, R2⟩
            case measure => simp [intOf]; omega
        · have HE : Hid (s = use nv (l.take (k + 1))) := HNO.out (fun h => t2 (HG.out.1 h).2.1)
          clear HN HS HNO
          go_wp2
          go_roundw
          case rel => exact ⟨k + 1, s, by omega, by go_num, by omega, HE, HF, R1, R2⟩
          case measure => simp [intOf]; omega
      · have HE : Hid (s = use nv (l.take (k + 1))) := HNO.out (fun h => t1 (HG.out.1 h).1)
        clear HN HS HNO
        go_wp2
        go_roundw
        case rel => exact ⟨k + 1, s, by omega, by go_num, by omega, HE, HF, R1, R2⟩
        case measure => simp [intOf]; omega
    · have HU : Hid (s = use nv l) := by
        unfold Hid; rw [HS.out, List.take_of_length_le (by have := HL.out; omega)]
      obtain ⟨g, c, rfl⟩ := HF.out
      have HO : Hid (wr.ownsRow w.heap.size 27 3 (.slice (some ⟨g, 0, none⟩) s.length c) s.length (flat s)) := hown
      clear HS HF hown
      have HB : Hid (Below w.heap.size w wr) := hbel
      generalize hm : s.length = m at *
      have HM : Hid (s.length = m) := hm
      clear hm hbel
      go_wp2
      go_ret
      have e : (use nv l).length = m := by rw [← HU.out, HM.out]
      rw [e]
      exact ⟨g, c, rfl, by unfold Own; rw [e, ← HU.out]; exact HO.out, HB.out⟩

set_option maxHeartbeats 1000000 in
theorem entries_any (ao : Option Addr) (cap : Nat) (l : List E) (nv : Int) (w : World) (hn : l.length ≤ 1000000) (hv : EV w ao l) :
    Calls Try.prog 12 #[.slice ao l.length cap, .int .i64 nv] w fun e w' => ∃ v, e = .returned v ∧ Own w' w.heap.size v (use nv l) ∧ Below w.heap.size w w' := by
  obtain ⟨i0, hi, hz0, hz1, hz2⟩ := info_parts infoEntry
  have HV : Hid (EV w ao l) := hv
  obtain ⟨n, hl⟩ : ∃ n, l.length = n := ⟨_, rfl⟩
  rw [hl] at hn ⊢
  have HL : Hid (l.length = n) := hl
  clear hv hl
  go_enter Try.func12, Try.ntmps12
  go_wp2
  go_loopw [5, 10] (fun v i wr => ∃ (k : Nat) (s : List E), k ≤ n ∧ i = .int .i64 k ∧ s.length ≤ k ∧ Hid (s = use nv (l.take k)) ∧ wr.ownsRow w.heap.size 27 3 v s.length (flat s) ∧ Below w.heap.size w wr) (fun _ i _ => n - (intOf i).toNat)
  case atStart => exact ⟨0, [], Nat.zero_le _, rfl, Nat.le_refl _, rfl, World.ownsRow_nil _ _ _ _, Below.refl _ _⟩
  case round =>
    obtain ⟨k, s, hk, rfl, hsk, HS, hown, hbel⟩ := hrel
    have hs1 := hbel.size
    by_cases hlt : k < n
    · obtain ⟨x, y, z, hp⟩ := get3 HL.out hlt
      obtain ⟨b, off, rfl, hc⟩ := (HV.out.below hbel).some (by have := HL.out; omega)
      obtain ⟨c1, c2, c3⟩ := hc k (x, y, z) hp
      simp only at c1 c2 c3
      obtain ⟨p, hpx⟩ : ∃ p : Int, (if x < 0 then (0 : Int) else x) = p := ⟨_, rfl⟩
      obtain ⟨q, hqy⟩ : ∃ q : Int, (if 1114111 < y then (1114111 : Int) else y) = q := ⟨_, rfl⟩
      have hpm : max x 0 = p := by rw [← hpx]; split <;> omega
      have hqm : min y 1114111 = q := by rw [← hqy]; split <;> omega
      have HN : Hid (use nv (l.take (k + 1)) = use nv (l.take k) ++ (if good nv (clip (x, y, z)) = true then [(p, q, z)] else [])) := by
        unfold Hid; rw [takeX hp, use_snoc, ← hpm, ← hqm]; rfl
      have HG : Hid (good nv (clip (x, y, z)) = true ↔ p ≤ q ∧ 0 ≤ z ∧ z < nv) := by unfold Hid; rw [good_iff, hpm, hqm]
      clear hc hp hpm hqm
      have R1 := hown.alloc (.cells #[.int .i64 p, .int .i64 q, .int .i64 z] 27)
      have R2 := hbel.alloc hs1 (.cells #[.int .i64 p, .int .i64 q, .int .i64 z] 27)
      have no : good nv (clip (x, y, z)) ≠ true → Hid (s = use nv (l.take (k + 1))) := fun h => by
        unfold Hid; rw [HN.out, if_neg h, List.append_nil, ← HS.out]
      have HNO : Hid (good nv (clip (x, y, z)) ≠ true → Hid (s = use nv (l.take (k + 1)))) := no
      clear no
      by_cases t2 : 0 ≤ z
      · by_cases t3 : z < nv
        · by_cases t1 : p ≤ q
          · have HE : Hid (s ++ [(p, q, z)] = use nv (l.take (k + 1))) := by
              unfold Hid; rw [HN.out, if_pos (HG.out.2 ⟨t1, t2, t3⟩), ← HS.out]
            have HW : Hid (∀ j, u5.ownBlock = some j → w.heap.size ≤ j) := fun j e => (hown.lt _ e).1
            clear HN HS HNO R1 R2
            go_wp2_with (at_builtin; refine wpList_append_own _ rfl _ _ 22 rfl w.heap.size 27 i0 (.agg #[.int .i64 0, .int .i64 0, .int .i64 0]) 3 24 Try.underlying22 hi hz0 hz1 hz2 rfl (by decide) _ _ _ rfl ((hown.alloc _).alloc _) ⟨wr.heap.size + 1, 0, none⟩ 1 1 [.int .i64 p, .int .i64 q, .int .i64 z] rfl rfl ?c1 ?c2 ?c3 ?c4 ?c5 ?_)
            case c1 => exact two_new wr _ _ _ _ _
            case c2 => intro u hu; simp at hu; rcases hu with rfl | rfl | rfl <;> rfl
            case c3 => unfold maxLen; omega
            case c4 => omega
            case c5 => simp; omega
            · intro v' w2 hown2 hgrow _
              have R2 := Below.grown ((hbel.alloc hs1 (.cells #[.int .i64 p, .int .i64 q, .int .i64 z] 27)).alloc (by simp; omega) (.cells #[.int .i64 p, .int .i64 q, .int .i64 z] 27)) hgrow (by simp; omega) HW.out
              have R1 : w2.ownsRow w.heap.size 27 3 v' (s ++ [(p, q, z)]).length (flat (s ++ [(p, q, z)])) := by
                rw [flat_append, flat_three, List.length_append]; exact hown2
              clear hown2 hgrow hown hbel
              go_wp2
              go_roundw
              case rel => exact ⟨k + 1, s ++ [(p, q, z)], by omega, by go_num, by simp; omega, HE, R1, R2⟩
              case measure => simp [intOf]; omega
          · have HE : Hid (s = use nv (l.take (k + 1))) := HNO.out (fun h => t1 (HG.out.1 h).1)
            clear HN HS HNO
            go_wp2
            go_roundw
            case rel => exact ⟨k + 1, s, by omega, by go_num, by omega, HE, R1, R2⟩
            case measure => simp [intOf]; omega
        · have HE : Hid (s = use nv (l.take (k + 1))) := HNO.out (fun h => t3 (HG.out.1 h).2.2)
          clear HN HS HNO
          go_wp2
          go_roundw
          case rel => exact ⟨k + 1, s, by omega, by go_num, by omega, HE, R1, R2⟩
          case measure => simp [intOf]; omega
      · have HE : Hid (s = use nv (l.take (k + 1))) := HNO.out (fun h => t2 (HG.out.1 h).2.1)
        clear HN HS HNO
        go_wp2
        go_roundw
        case rel => exact ⟨k + 1, s, by omega, by go_num, by omega, HE, R1, R2⟩
        case measure => simp [intOf]; omega
    · have HU : Hid (s = use nv l) := by
        unfold Hid; rw [HS.out, List.take_of_length_le (by have := HL.out; omega)]
      go_wp2
      go_ret
      exact ⟨_, rfl, by rw [← HU.out]; exact hown, hbel⟩

/-- The place that the document's Get tells. -/
def place (o : Option Int) : Int := o.getD (-1)
theorem last_take {l : List E} {k : Nat} {e : E} (h : l[k]? = some e) (x : Int) : last (l.take (k + 1)) x = if e.1 ≤ x ∧ x ≤ e.2.1 then some e.2.2 else last (l.take k) x := by
  rw [takeX h, last_append, last, last]
  by_cases c : e.1 ≤ x ∧ x ≤ e.2.1
  · rw [if_pos c, if_pos c]; rfl
  · rw [if_neg c, if_neg c]; rfl
set_option maxHeartbeats 1000000 in
theorem rget_any (ao : Option Addr) (cap : Nat) (l : List E) (r : Int) (w : World) (hn : l.length ≤ 1000000) (hv : EV w ao l) :
    Calls Try.prog 14 #[.slice ao l.length cap, .int .i64 r] w fun e w' => e = .returned (.int .i64 (place (last l r))) ∧ Below w.heap.size w w' := by
  have HV : Hid (EV w ao l) := hv
  obtain ⟨n, hl⟩ : ∃ n, l.length = n := ⟨_, rfl⟩
  rw [hl] at hn ⊢
  have HL : Hid (l.length = n) := hl
  clear hv hl
  go_enter Try.func14, Try.ntmps14
  go_wp2
  go_loopw [5, 10] (fun v i wr => ∃ (k : Nat) (q : Int), k ≤ n ∧ i = .int .i64 k ∧ v = .int .i64 q ∧ Hid (q = place (last (l.take k) r)) ∧ Below w.heap.size w wr) (fun _ i _ => n - (intOf i).toNat)
  case atStart => exact ⟨0, -1, Nat.zero_le _, rfl, rfl, rfl, Below.refl _ _⟩
  case round =>
    obtain ⟨k, q, hk, rfl, rfl, HS, hbel⟩ := hrel
    have hs1 := hbel.size
    by_cases hlt : k < n
    · obtain ⟨x, y, z, hp⟩ := get3 HL.out hlt
      obtain ⟨b, off, rfl, hc⟩ := (HV.out.below hbel).some (by have := HL.out; omega)
      obtain ⟨c1, c2, c3⟩ := hc k (x, y, z) hp
      simp only at c1 c2 c3
      have HN : Hid (last (l.take (k + 1)) r = if x ≤ r ∧ r ≤ y then some z else last (l.take k) r) := last_take hp r
      clear hc hp
      have R2 := hbel.alloc hs1 (.cells #[.int .i64 x, .int .i64 y, .int .i64 z] 27)
      by_cases t1 : x ≤ r
      · by_cases t2 : r ≤ y
        · have HE : Hid (z = place (last (l.take (k + 1)) r)) := by unfold Hid; rw [HN.out, if_pos ⟨t1, t2⟩]; rfl
          clear HN HS
          go_wp2
          go_roundw
          case rel => exact ⟨k + 1, z, by omega, by go_num, rfl, HE, R2⟩
          case measure => simp [intOf]; omega
        · have HE : Hid (q = place (last (l.take (k + 1)) r)) := by unfold Hid; rw [HN.out, if_neg (by omega)]; exact HS
          clear HN HS
          go_wp2
          go_roundw
          case rel => exact ⟨k + 1, q, by omega, by go_num, rfl, HE, R2⟩
          case measure => simp [intOf]; omega
      · have HE : Hid (q = place (last (l.take (k + 1)) r)) := by unfold Hid; rw [HN.out, if_neg (by omega)]; exact HS
        clear HN HS
        go_wp2
        go_roundw
        case rel => exact ⟨k + 1, q, by omega, by go_num, rfl, HE, R2⟩
        case measure => simp [intOf]; omega
    · have HU : Hid (q = place (last l r)) := by
        unfold Hid; rw [HS.out, List.take_of_length_le (by have := HL.out; omega)]
      clear HS
      go_wp2
      go_ret
      exact ⟨ret_int HU.out, hbel⟩
end Go.Proofs.Ytmglljceklmngaa.tri
