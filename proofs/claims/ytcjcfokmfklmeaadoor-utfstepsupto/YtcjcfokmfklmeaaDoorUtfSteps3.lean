/- The walk of UtfSteps: at every place utf.Next and utf.Prev answer as the document asks. -/
import Derived.Test.YtcjcfokmfklmeaaDoorUtfSteps2
import Derived.Test.YtcjcfokmfklmeaaDoorUtfBytes
set_option linter.unusedVariables false
set_option linter.unusedSimpArgs false
namespace Go.Proofs.YtcjcfokmfklmeaaDoor.utf
open Go.RowKit

theorem next_both (ao : Option Addr) (n cap : Nat) (f : Nat → Int) (a : Int) (hn : n ≤ 9223372036854775807) (hcap : n ≤ cap) (hcm : cap ≤ 9223372036854775807) (hf : ∀ i, 0 ≤ f i ∧ f i ≤ 255) :
    ∃ (R s E : Int) (k : Bool), (∀ w, IsB w ao n f → Calls Tryd.prog 19 #[.slice ao n cap, .int .i64 a] w fun e w' => e = .returned (.tuple #[.agg #[.int .i64 R, .int .i64 s, .int .i64 E], .bool k]) ∧ Below w.heap.size w w') ∧
      (∀ w, IsB w ao n f → Calls Tryd.prog 20 #[.slice ao n cap, .int .i64 a] w fun e w' => e = .returned (.tuple #[.agg #[.int .i64 R, .int .i64 s, .int .i64 E], .bool k]) ∧ Below w.heap.size w w') := by
  by_cases h : a < 0 ∨ (n : Int) ≤ a
  · exact ⟨0, 0, 0, false, fun w _ => next_no ao n cap a w h, fun w _ => rnext_no ao n cap a w h⟩
  · obtain ⟨m, rfl⟩ := Int.eq_ofNat_of_zero_le (show 0 ≤ a from by omega)
    refine ⟨(it f n m).1, m, (it f n m).2.1, true, fun w hB => ?_, fun w hB => ?_⟩
    · rcases hB with h0 | ⟨b, off, rfl, hc⟩
      · omega
      · exact next_yes b off n cap f m w hc (by omega) hn hf
    · rcases hB with h0 | ⟨b, off, rfl, hc⟩
      · omega
      · exact rnext_yes b off n cap f m w hc (by omega) hn hcap hcm hf

theorem prev_both (ao : Option Addr) (n cap : Nat) (f : Nat → Int) (a : Int) (hn : n * 24 ≤ 140737488355328) (hcap : n ≤ cap) (hcm : cap ≤ 9223372036854775807) (hf : ∀ i, 0 ≤ f i ∧ f i ≤ 255) :
    ∃ (R s E : Int) (k : Bool), (∀ w, IsB w ao n f → Calls Tryd.prog 21 #[.slice ao n cap, .int .i64 a] w fun e w' => e = .returned (.tuple #[.agg #[.int .i64 R, .int .i64 s, .int .i64 E], .bool k]) ∧ Below w.heap.size w w') ∧
      (∀ w, IsB w ao n f → Calls Tryd.prog 22 #[.slice ao n cap, .int .i64 a] w fun e w' => e = .returned (.tuple #[.agg #[.int .i64 R, .int .i64 s, .int .i64 E], .bool k]) ∧ Below w.heap.size w w') := by
  by_cases h : a < 1 ∨ (n : Int) < a
  · exact ⟨0, 0, 0, false, fun w _ => prev_no ao n cap a w h, fun w _ => rprev_no ao n cap a w h⟩
  · obtain ⟨m, rfl⟩ := Int.eq_ofNat_of_zero_le (show 0 ≤ a from by omega)
    have hp := items_pos f m (by omega)
    obtain ⟨⟨R, s, E⟩, hl⟩ : ∃ x, (items f m 0).getLast? = some x := by
      cases hx : (items f m 0).getLast? with
      | none => rw [List.getLast?_eq_none_iff] at hx; rw [hx] at hp; simp at hp
      | some x => exact ⟨x, rfl⟩
    refine ⟨R, s, E, true, fun w hB => ?_, fun w hB => ?_⟩
    · rcases hB with h0 | ⟨b, off, rfl, hc⟩
      · omega
      · exact prev_yes b off n cap m f R s E w hc (by omega) (by omega) (by omega) hcap hf hl
    · rcases hB with h0 | ⟨b, off, rfl, hc⟩
      · omega
      · exact rprev_yes b off n cap m f R s E w hc (by omega) (by omega) hn hcap hcm hf hl

theorem blk_go {w w' : World} {g : Nat} {o o' : Obj} (h : w.heap[g]? = some o) (hb : Below (w.alloc o').heap.size (w.alloc o') w') : w'.heap[g]? = some o := by
  have hg := (Array.getElem?_eq_some_iff.1 h).1
  rw [hb.block g (by simp; omega), Below.heap_alloc _ _ _ hg]
  exact h
theorem blk_new {w w' : World} {o : Obj} (hb : Below (w.alloc o).heap.size (w.alloc o) w') : w'.heap[w.heap.size]? = some o := by
  rw [hb.block w.heap.size (by simp)]
  exact heap_alloc_new w o
theorem blk_lt {w : World} {g : Nat} {o : Obj} (h : w.heap[g]? = some o) : g < w.heap.size := (Array.getElem?_eq_some_iff.1 h).1

set_option maxHeartbeats 1000000 in
theorem steps_any (ao : Option Addr) (n cap : Nat) (f : Nat → Int) (a : Int) (w : World) (hm : Marks w) (hB : IsB w ao n f) (hn : n * 24 ≤ 140737488355328 ∧ n ≤ cap ∧ cap ≤ 9223372036854775807 ∧ (ao = none → n = 0)) (hf : ∀ i, 0 ≤ f i ∧ f i ≤ 255) :
    Calls Tryd.prog 5 #[.slice ao n cap, .int .i64 a] w fun e w' => e = .returned (.bool true) ∧ Below w.heap.size w w' := by
  obtain ⟨hn, hcap, hcm, _⟩ := hn
  obtain ⟨R, s, E, k, N1, N2⟩ := next_both ao n cap f a (by omega) hcap hcm hf
  obtain ⟨R', s', E', k', P1, P2⟩ := prev_both ao n cap f a hn hcap hcm hf
  have HM : Hid (Marks w) := hm
  have HB : Hid (IsB w ao n f) := hB
  have n1 := N1 w hB
  have HN2 : Hid (∀ w, IsB w ao n f → _) := N2
  have HP1 : Hid (∀ w, IsB w ao n f → _) := P1
  have HP2 : Hid (∀ w, IsB w ao n f → _) := P2
  have k0 : (k == k) = true := by cases k <;> rfl
  have k1 : (k' == k') = true := by cases k' <;> rfl
  clear hm hB hf N1 N2 P1 P2
  go_enter Tryd.func5, Tryd.ntmps5
  go_wp2_with fail
  refine n1.mono ?_
  rintro e w1 ⟨rfl, hb1⟩
  have c1 := hb1.alloc hb1.size (.cells #[.int .i64 R, .int .i64 s, .int .i64 E] 27)
  clear n1 hb1
  go_wp2_with fail
  refine (HN2.out _ (HB.out.below c1)).mono ?_
  rintro e w2 ⟨rfl, hb2⟩
  have x1 := blk_new hb2
  have d2 := c1.trans (hb2.mono c1.size)
  have c2 := d2.alloc d2.size (.cells #[.int .i64 R, .int .i64 s, .int .i64 E] 27)
  have X1 : Hid (w2.heap[w1.heap.size]? = some (.cells #[.int .i64 R, .int .i64 s, .int .i64 E] 27 (0, 0))) := x1
  clear hb2 c1 d2 x1 HN2
  go_wp2_with fail
  refine (HP1.out _ (HB.out.below c2)).mono ?_
  rintro e w3 ⟨rfl, hb3⟩
  have x2 := blk_new hb3
  have X2 : Hid (w3.heap[w2.heap.size]? = some (.cells #[.int .i64 R, .int .i64 s, .int .i64 E] 27 (0, 0))) := x2
  have X1' : Hid (w3.heap[w1.heap.size]? = some (.cells #[.int .i64 R, .int .i64 s, .int .i64 E] 27 (0, 0))) := blk_go X1.out hb3
  have d3 := c2.trans (hb3.mono c2.size)
  have c3 := d3.alloc d3.size (.cells #[.int .i64 R', .int .i64 s', .int .i64 E'] 27)
  clear hb3 c2 d3 x2 X1 HP1
  go_wp2_with fail
  refine (HP2.out _ (HB.out.below c3)).mono ?_
  rintro e w4 ⟨rfl, hb4⟩
  have x3 := blk_new hb4
  have x2 := blk_go X2.out hb4
  have x1 := blk_go X1'.out hb4
  have d4 := c3.trans (hb4.mono c3.size)
  have c4 := d4.alloc d4.size (.cells #[.int .i64 R', .int .i64 s', .int .i64 E'] 27)
  have AW := awake_any _ (HM.out.below c4)
  have l1 := blk_lt x1
  have l2 := blk_lt x2
  have l3 := blk_lt x3
  obtain ⟨p0, p1, p2, _, _, _⟩ := blk3 x1
  obtain ⟨q0, q1, q2, _, _, _⟩ := blk3 x2
  obtain ⟨r0, r1, r2, _, _, _⟩ := blk3 x3
  clear hb4 c3 d4 X2 X1' HP2 HB x1 x2 x3
  go_wp2_with (go_at_call 16; refine AW.mono ?_; rintro e w' ⟨rfl, hbel⟩)
  go_ret
  exact ⟨rfl, c4.trans (Below.mono (by assumption) c4.size)⟩
end Go.Proofs.YtcjcfokmfklmeaaDoor.utf
