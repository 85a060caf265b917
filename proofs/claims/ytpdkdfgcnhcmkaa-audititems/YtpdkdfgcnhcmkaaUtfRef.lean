/- What the document's Decode and Valid answer of a row of bytes: the same items, and the same word on whether they are well-formed. -/
import Derived.Test.YtpdkdfgcnhcmkaaUtfFirst
import Derived.Test.YtpdkdfgcnhcmkaaUtfDec
set_option linter.unusedVariables false
set_option linter.unusedSimpArgs false
namespace Go.Proofs.Ytpdkdfgcnhcmkaa.utf
open Go.RowKit

/-- first at the rest of a row. -/
theorem first_at (b off n cap : Nat) (f : Nat → Int) (a : Nat) (w : World) (hc : ∀ i, i < n → w.cell? ⟨b, off + i, none⟩ = some (.int .u8 (f i)))
    (ha : a < n) (hn : n ≤ 9223372036854775807) (hcap : n ≤ cap) (hf : ∀ i, 0 ≤ f i ∧ f i ≤ 255) :
    Calls Try.prog 23 #[.slice (some ⟨b, off + a, none⟩) (n - a) (cap - a)] w fun e w' =>
      e = .returned (.tuple #[.agg #[.int .i64 (it f n a).1, .int .i64 0, .int .i64 ((it f n a).2.1 - a : Nat)], .bool (it f n a).2.2]) ∧ Below w.heap.size w w' := by
  have h := first_any b (off + a) (n - a) (cap - a) (fun i => f (a + i)) w (fun i hi => by rw [Nat.add_assoc]; exact hc (a + i) (by omega)) (by omega) (by omega) (by omega) (fun i => hf (a + i))
  rw [it_shift, show a + (n - a) = n from by omega] at h
  exact h

theorem rdecode_none (ao : Option Addr) (cap : Nat) (w : World) :
    Calls Try.prog 15 #[.slice ao 0 cap] w fun e w' => e = .returned (.slice none 0 0) ∧ w' = w := by
  go_enter Try.func15, Try.ntmps15
  go_wp2
  refine wp_loop_rounds 1 ?_
  rw [rounds_succ]
  go_wp2
  go_ret
  exact ⟨rfl, rfl⟩

set_option maxHeartbeats 400000 in
theorem rdecode_some (b off n cap : Nat) (f : Nat → Int) (w : World) (hc : ∀ i, i < n → w.cell? ⟨b, off + i, none⟩ = some (.int .u8 (f i)))
    (hn : n * 24 ≤ 140737488355328) (hcap : n ≤ cap) (hcm : cap ≤ 9223372036854775807) (hf : ∀ i, 0 ≤ f i ∧ f i ≤ 255) :
    Calls Try.prog 15 #[.slice (some ⟨b, off, none⟩) n cap] w fun e w' => ∃ v, e = .returned v ∧ w'.ownsRow w.heap.size 32 3 v (items f n 0).length (flat (items f n 0)) ∧ Below w.heap.size w w' := by
  obtain ⟨i0, hi, hz0, hz1, hz2⟩ := info_parts infoItem
  have HC : Hid (∀ i, i < n → w.cell? ⟨b, off + i, none⟩ = some (.int .u8 (f i))) := hc
  have HF : Hid (∀ i, 0 ≤ f i ∧ f i ≤ 255) := hf
  clear hc hf
  go_enter Try.func15, Try.ntmps15
  go_wp2
  go_loopw [3, 4] (fun v i wr => ∃ (a : Nat) (done : List (Int × Nat × Nat)), a ≤ n ∧ i = .int .i64 a ∧ done.length ≤ a ∧ wr.ownsRow w.heap.size 32 3 v done.length (flat done) ∧ Hid (done ++ items f n a = items f n 0) ∧ Below w.heap.size w wr)
    (fun _ i _ => n - (intOf i).toNat)
  case atStart => exact ⟨0, [], Nat.zero_le _, rfl, Nat.le_refl _, World.ownsRow_nil _ _ _ _, rfl, Below.refl _ _⟩
  case round =>
    obtain ⟨a, done, han, rfl, hda, hown, HD, hbel⟩ := hrel
    by_cases hlt : a < n
    · have HCr : Hid (∀ i, i < n → wr.cell? ⟨b, off + i, none⟩ = some (.int .u8 (f i))) := fun i hi => (hbel.cell (World.block_lt_of_cell? w _ (HC.out i hi))).trans (HC.out i hi)
      have FA := first_at b off n cap f a wr HCr.out hlt (by omega) hcap HF.out
      have hie := it_end f n a hlt
      have HD2 : Hid ((done ++ [((it f n a).1, a, (it f n a).2.1)]) ++ items f n (it f n a).2.1 = items f n 0) := by
        rw [List.append_assoc]; rw [items_step f n a hlt] at HD; exact HD
      obtain ⟨D, hD⟩ : ∃ D, (it f n a).2.1 = a + D := ⟨(it f n a).2.1 - a, by omega⟩
      rw [hD] at FA hie HD2
      rw [show a + D - a = D from by omega] at FA
      clear HD hD
      generalize (it f n a).2.2 = K at *
      generalize (it f n a).1 = R at *
      go_wp2_with fail
      refine FA.mono ?_
      rintro e w1 ⟨rfl, hb1⟩
      have hown1 := own_below hown hb1
      have hs1 := hbel.size
      have hs2 := hb1.size
      have HV : Hid (some w1.heap.size ≠ u3.ownBlock) := fun e => by have := (hown.lt _ e.symm).2; omega
      have HW : Hid (∀ k, u3.ownBlock = some k → w.heap.size ≤ k) := fun k e => (hown.lt _ e).1
      clear HCr hown FA
      go_wp2_with (at_builtin; refine wpList_append_own _ rfl _ _ 29 rfl w.heap.size 32 i0 (.agg #[.int .i64 0, .int .i64 0, .int .i64 0]) 3 24 Try.underlying29 hi hz0 hz1 hz2 rfl (by decide) _ _ _ rfl ((hown1.alloc _).alloc _) ⟨w1.heap.size + 1, 0, none⟩ 1 1 [.int .i64 R, .int .i64 a, .int .i64 ((a : Int) + (D : Int))] rfl rfl ?c1 ?c2 ?c3 ?c4 ?c5 ?_)
      case c1 => exact three_new w1 _ _ _ _
      case c2 => intro u hu; simp at hu; rcases hu with rfl | rfl | rfl <;> rfl
      case c3 => unfold maxLen; omega
      case c4 => omega
      case c5 => simp; omega
      · intro v' w2 hown2 hgrow _
        have hx2 : w2.cell? ⟨w1.heap.size, 2, none⟩ = some (.int .i64 ((a : Int) + (D : Int))) := hgrow.cell (by simp) HV.out
        have R2 := Below.grown (((hbel.trans (hb1.mono hs1)).alloc (by omega) (.cells #[.int .i64 R, .int .i64 a, .int .i64 ((a : Int) + (D : Int))] 32)).alloc (by simp; omega) (.cells #[.int .i64 R, .int .i64 a, .int .i64 ((a : Int) + (D : Int))] 32)) hgrow (by simp; omega) HW.out
        have R1 : w2.ownsRow w.heap.size 32 3 v' (done ++ [(R, a, a + D)]).length (flat (done ++ [(R, a, a + D)])) := by
          rw [flat_append, flat_one, List.length_append, Int.natCast_add]; exact hown2
        clear hown2 hgrow hown1 hb1 hbel
        go_wp2
        go_roundw
        case rel => exact ⟨a + D, done ++ [(R, a, a + D)], by omega, by go_num, by simp; omega, R1, HD2, R2⟩
        case measure => simp [intOf]; omega
    · go_wp2
      go_ret
      have : a = n := by omega
      subst this
      have e := HD.out
      rw [items_end f a a (Nat.le_refl _), List.append_nil] at e
      rw [← e]
      exact ⟨_, rfl, hown, hbel⟩

theorem rdecode_any (ao : Option Addr) (n cap : Nat) (f : Nat → Int) (w : World) (hB : IsB w ao n f) (hn : n * 24 ≤ 140737488355328) (hcap : n ≤ cap) (hcm : cap ≤ 9223372036854775807) (hf : ∀ i, 0 ≤ f i ∧ f i ≤ 255) :
    Calls Try.prog 15 #[.slice ao n cap] w fun e w' => ∃ v, e = .returned v ∧ w'.ownsRow w.heap.size 32 3 v (items f n 0).length (flat (items f n 0)) ∧ Below w.heap.size w w' := by
  rcases hB with rfl | ⟨b, off, rfl, hc⟩
  · refine (rdecode_none ao cap w).mono ?_
    rintro e w' ⟨rfl, rfl⟩
    exact ⟨_, rfl, by rw [items_end f 0 0 (Nat.le_refl _)]; exact World.ownsRow_nil _ _ _ _, Below.refl _ _⟩
  · exact rdecode_some b off n cap f w hc hn hcap hcm hf

end Go.Proofs.Ytpdkdfgcnhcmkaa.utf
