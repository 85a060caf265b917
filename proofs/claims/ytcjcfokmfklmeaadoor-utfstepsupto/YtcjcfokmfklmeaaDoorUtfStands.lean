/- The walk of UtfStands: the items of bytes stand one behind the other, from 0 to the end. -/
import Derived.Test.YtcjcfokmfklmeaaDoorUtfBytes
import Derived.Test.YtcjcfokmfklmeaaDoorUtfEqual
set_option linter.unusedVariables false
set_option linter.unusedSimpArgs false
namespace Go.Proofs.YtcjcfokmfklmeaaDoor.utf
open Go.RowKit

theorem items_pos (f : Nat → Int) (n : Nat) (h : 0 < n) : 0 < (items f n 0).length := by
  rw [items_step f n 0 h]; simp
theorem drop_step {f : Nat → Int} {n a k : Nat} {l : List (Int × Nat × Nat)} (h : l.drop k = items f n a) (hk : k < l.length) :
    a < n ∧ l.getD k (0, 0, 0) = ((it f n a).1, a, (it f n a).2.1) ∧ l.drop (k + 1) = items f n (it f n a).2.1 := by
  have ha : a < n := by
    rcases Nat.lt_or_ge a n with h1 | h1
    · exact h1
    · rw [items_end f n a h1] at h
      have := List.drop_eq_nil_iff.1 h
      omega
  rw [items_step f n a ha, List.drop_eq_getElem_cons hk] at h
  have h' := List.cons.inj h
  refine ⟨ha, ?_, h'.2⟩
  rw [List.getD_eq_getElem?_getD, List.getElem?_eq_getElem hk]
  exact h'.1
theorem drop_last {f : Nat → Int} {n a k : Nat} {l : List (Int × Nat × Nat)} (h : l.drop k = items f n a) (hk : l.length ≤ k) : n ≤ a := by
  rcases Nat.lt_or_ge a n with h1 | h1
  · rw [items_step f n a h1, List.drop_eq_nil_iff.2 hk] at h
    simp at h
  · exact h1

theorem IsI.below {w w' : World} {b n : Nat} {x y z : Nat → Int} (h : IsI w b n x y z) (hb : Below w.heap.size w w') : IsI w' b n x y z := by
  intro i hi
  obtain ⟨h1, h2, h3⟩ := h i hi
  exact ⟨(hb.cell (World.block_lt_of_cell? w _ h1)).trans h1, (hb.cell (World.block_lt_of_cell? w _ h2)).trans h2, (hb.cell (World.block_lt_of_cell? w _ h3)).trans h3⟩

/-- Decode of bytes that are not empty: the answer's form. -/
theorem decode_pos (ao : Option Addr) (n cap : Nat) (f : Nat → Int) (w : World) (hB : IsB w ao n f) (h0 : 0 < n) (hn : n * 24 ≤ 140737488355328) (hf : ∀ i, 0 ≤ f i ∧ f i ≤ 255) :
    Calls Tryd.prog 11 #[.slice ao n cap] w fun e w' => ∃ g c, e = .returned (.slice (some ⟨g, 0, none⟩) (items f n 0).length c) ∧ w'.ownsRow w.heap.size 27 3 (.slice (some ⟨g, 0, none⟩) (items f n 0).length c) (items f n 0).length (flat (items f n 0)) ∧ Below w.heap.size w w' := by
  refine (decode_any ao n cap f w hB hn hf).mono ?_
  rintro e w' ⟨v, rfl, hown, hb⟩
  have hp := items_pos f n h0
  rcases hown.2 with ⟨_, k⟩ | ⟨g, c, cur, rfl, rest⟩
  · omega
  · exact ⟨g, c, rfl, hown, hb⟩

theorem items_le (f : Nat → Int) (n : Nat) : ∀ m a, n - a = m → (items f n a).length ≤ n - a := by
  intro m
  induction m using Nat.strongRecOn with
  | ind m ih =>
    intro a hm
    rcases Nat.lt_or_ge a n with h | h
    · have e := it_end f n a h
      rw [items_step f n a h, List.length_cons]
      have := ih (n - (it f n a).2.1) (by omega) _ rfl
      omega
    · rw [items_end f n a h]; simp

theorem stands_zero (ao : Option Addr) (cap : Nat) (w : World) (hm : Marks w) :
    Calls Tryd.prog 6 #[.slice ao 0 cap] w fun e w' => e = .returned (.bool true) ∧ Below w.heap.size w w' := by
  have D := decode_none ao cap w
  have AW := awake_any w hm
  clear hm
  go_enter Tryd.func6, Tryd.ntmps6
  go_wp2_with (go_at_call 11; refine D.mono ?_; rintro e w' ⟨rfl, hw⟩; subst hw)
  refine wp_loop_rounds 1 ?_
  rw [rounds_succ]
  go_wp2_with (go_at_call 16; refine AW.mono ?_; rintro e w' ⟨rfl, hbel⟩)
  go_ret
  exact ⟨rfl, by assumption⟩

set_option maxHeartbeats 400000 in
theorem stands_pos (ao : Option Addr) (n cap : Nat) (f : Nat → Int) (w : World) (hm : Marks w) (hB : IsB w ao n f) (h0 : 0 < n) (hn : n * 24 ≤ 140737488355328) (hf : ∀ i, 0 ≤ f i ∧ f i ≤ 255) :
    Calls Tryd.prog 6 #[.slice ao n cap] w fun e w' => e = .returned (.bool true) ∧ Below w.heap.size w w' := by
  have D := decode_pos ao n cap f w hB h0 hn hf
  have hlen := items_le f n (n - 0) 0 rfl
  have HM : Hid (Marks w) := hm
  clear hm hB hf
  go_enter Tryd.func6, Tryd.ntmps6
  go_wp2_with fail
  refine D.mono ?_
  rintro e w1 ⟨g, c, rfl, hown, hb1⟩
  have HI : Hid (IsI w1 g (items f n 0).length _ _ _) := isI_of (n := 0) hown
  have HL : Hid ((items f n 0).drop 0 = items f n 0) := rfl
  clear D hown
  generalize hl : items f n 0 = l at *
  have HL' : Hid (l.drop 0 = items f n 0) := by rw [hl]; rfl
  clear hl HL
  have hs1 := hb1.size
  go_wp2
  go_loopw [3, 9] (fun t i wr => ∃ (k a : Nat), k ≤ l.length ∧ a ≤ n ∧ i = .int .i64 k ∧ t = .int .i64 a ∧ Hid (l.drop k = items f n a) ∧ Below w1.heap.size w1 wr)
    (fun _ i _ => l.length - (intOf i).toNat)
  case atStart => exact ⟨0, 0, Nat.zero_le _, Nat.zero_le _, rfl, rfl, HL', Below.refl _ _⟩
  case round =>
    obtain ⟨k, a, hk, ha, rfl, rfl, HD, hbel⟩ := hrel
    by_cases hlt : k < l.length
    · obtain ⟨han, hgd, hdr⟩ := drop_step HD.out hlt
      have hie := it_end f n a han
      have hc := (HI.out.below hbel) k hlt
      simp only [hgd] at hc
      obtain ⟨p1, p2, p3⟩ := hc
      have HD2 : Hid (l.drop (k + 1) = items f n (it f n a).2.1) := hdr
      clear HD hgd hdr
      generalize (it f n a).2.1 = E at *
      generalize (it f n a).1 = R at *
      have R2 := hbel.alloc hbel.size (.cells #[.int .i64 R, .int .i64 a, .int .i64 E] 27)
      have t1 : ((a : Int) != (a : Int)) = false := by simp
      clear hbel
      go_wp2
      go_roundw
      case rel => exact ⟨k + 1, E, by omega, by omega, by go_num, rfl, HD2, R2⟩
      case measure => simp [intOf]; omega
    · have hna := drop_last HD.out (by omega)
      have hb2 := hb1.trans (hbel.mono hs1)
      have AW := awake_any wr (HM.out.below hb2)
      have t1 : ((a : Int) == (n : Int)) = true := by simp; omega
      clear HD
      go_wp2_with (go_at_call 16; refine AW.mono ?_; rintro e w' ⟨rfl, hb3⟩)
      go_ret
      exact ⟨rfl, hb2.trans (Below.mono (by assumption) hb2.size)⟩
theorem stands_any (ao : Option Addr) (n cap : Nat) (f : Nat → Int) (w : World) (hm : Marks w) (hB : IsB w ao n f) (hn : n * 24 ≤ 140737488355328) (hf : ∀ i, 0 ≤ f i ∧ f i ≤ 255) :
    Calls Tryd.prog 6 #[.slice ao n cap] w fun e w' => e = .returned (.bool true) ∧ Below w.heap.size w w' := by
  rcases Nat.eq_zero_or_pos n with rfl | h0
  · exact stands_zero ao cap w hm
  · exact stands_pos ao n cap f w hm hB h0 hn hf
end Go.Proofs.YtcjcfokmfklmeaaDoor.utf
