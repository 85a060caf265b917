/- Texts that the proof leans on, one behind the other. -/
import Derived.Test.YtlgkfnecahgedaaGreatDoorBdUtf1
import Derived.Lib.Bytes
import Derived.Lib.Walk
import Derived.Deep.QuietTactic
import Derived.BigQuiet
import Derived.Lib.SliceRun

section
/- What the document's own 'first' answers: the item at the beginning of a row of bytes; nothing that was there changes. -/
set_option linter.unusedVariables false
set_option linter.unusedSimpArgs false
namespace Go.Proofs.YtlgkfnecahgedaaGreatDoor.utf
open Go.RowKit

theorem first_zero (b off n cap : Nat) (f : Nat → Int) (w : World) (hc : ∀ i, i < n → w.cell? ⟨b, off + i, none⟩ = some (.int .u8 (f i)))
    (ha : 0 < n) (hn : n ≤ 9223372036854775807) (hf : ∀ i, 0 ≤ f i ∧ f i ≤ 255) (hz : sz (f 0) = 0) :
    Calls Tryz.prog 90 #[.slice (some ⟨b, off, none⟩) n cap] w fun e w' =>
      e = .returned (.tuple #[.agg #[.int .i64 65533, .int .i64 0, .int .i64 1], .bool false]) ∧ Below w.heap.size w w' := by
  have hca := fun o => cells_alloc hc o 0 ha
  simp only [Nat.add_zero] at hca
  obtain ⟨hc0, hc1⟩ := hf 0
  clear hc hf
  generalize f 0 = c at *
  go_enter Tryz.func90, Tryz.ntmps90
  go_wp2_with (go_at_call 117; refine (rsize_any _ _ hc0 hc1).mono ?_; rintro e w' ⟨rfl, rfl⟩)
  refine bodyPost_ret (v := .tuple #[.agg #[.int .i64 65533, .int .i64 0, .int .i64 1], .bool false]) (by simp [results, Tryz.results90, go_sem]) rfl ⟨rfl, ?_⟩
  exact (Below.refl _ _).alloc (Nat.le_refl _) _

theorem i64_and31 (x : Int) (h0 : 0 ≤ x) (h1 : x ≤ 255) : bits .and .i64 x 31 = x % 32 :=
  bits_mask .i64 63 (by decide) (fun n a b => by rw [IntKind.wrap_i64]; omega) 5 (by decide) x h0 (by omega)
theorem i64_and15 (x : Int) (h0 : 0 ≤ x) (h1 : x ≤ 255) : bits .and .i64 x 15 = x % 16 :=
  bits_mask .i64 63 (by decide) (fun n a b => by rw [IntKind.wrap_i64]; omega) 4 (by decide) x h0 (by omega)
theorem i64_and7 (x : Int) (h0 : 0 ≤ x) (h1 : x ≤ 255) : bits .and .i64 x 7 = x % 8 :=
  bits_mask .i64 63 (by decide) (fun n a b => by rw [IntKind.wrap_i64]; omega) 3 (by decide) x h0 (by omega)

set_option maxHeartbeats 1000000 in
theorem first_more (b off n cap S : Nat) (f : Nat → Int) (w : World) (hc : ∀ i, i < n → w.cell? ⟨b, off + i, none⟩ = some (.int .u8 (f i)))
    (ha : 0 < n) (hn : n ≤ 9223372036854775807) (hcap : n ≤ cap) (hf : ∀ i, 0 ≤ f i ∧ f i ≤ 255) (hS : sz (f 0) = S) (hS1 : 1 ≤ S) :
    Calls Tryz.prog 90 #[.slice (some ⟨b, off, none⟩) n cap] w fun e w' =>
      e = .returned (.tuple #[.agg #[.int .i64 (it f n 0).1, .int .i64 0, .int .i64 (it f n 0).2.1], .bool (it f n 0).2.2]) ∧ Below w.heap.size w w' := by
  have HC : Hid (∀ i, i < n → w.cell? ⟨b, off + i, none⟩ = some (.int .u8 (f i))) := hc
  have HF : Hid (∀ i, 0 ≤ f i ∧ f i ≤ 255) := hf
  have hca := fun o => cells_alloc hc o 0 ha
  simp only [Nat.add_zero] at hca
  obtain ⟨hc0, hc1⟩ := hf 0
  have hS4 : S ≤ 4 := by rw [← hS]; exact sz_le _
  have HZ : Hid (sz (f 0) = S) := hS
  have HSZ := rsize_any (f 0) (w.alloc (.cells #[.int .i64 0, .int .i64 0, .int .i64 0] 88)) hc0 hc1
  rw [hS] at HSZ
  have HL : Hid (left f n S 0 = it f n 0) := by rw [← hS]; exact left_start f n (by omega)
  have hS0 : ((S : Int) == 0) = false := by simp; omega
  clear hc hf hS
  go_enter Tryz.func90, Tryz.ntmps90
  go_wp2_with (go_at_call 117; refine HSZ.mono ?_; rintro e w' ⟨rfl, rfl⟩)
  go_loopw [5] (fun m wr => ∃ j : Nat, wr = w.alloc (.cells #[.int .i64 0, .int .i64 0, .int .i64 0] 88) ∧ m = .int .i64 (j + 1 : Nat) ∧ j + 1 ≤ S ∧ j + 1 ≤ n ∧ Hid (left f n S j = it f n 0)) (fun m _ => 5 - (intOf m).toNat)
  case atStart => exact ⟨0, rfl, rfl, by omega, by omega, HL⟩
  case round =>
    obtain ⟨j, rfl, rfl, hjS, hjn, HJ⟩ := hrel
    by_cases hA : j + 1 = S
    · -- all bytes are there
      have HI : Hid (it f n 0 = (ac f j, S, true)) := HJ.out.symm.trans (left_end f n S j hA)
      clear HJ
      have hS2 : S ≤ n := by omega
      subst hA
      rcases (show j = 0 ∨ j = 1 ∨ j = 2 ∨ j = 3 from by omega) with rfl | rfl | rfl | rfl
      · have hb1 : ac f 0 = f 0 := hb_1 (f 0) HZ.out
        rw [hb1] at HI
        clear HSZ HL HZ hb1
        go_wp2
        all_goals
          refine wp_loop_rounds 1 ?_
          rw [rounds_succ]
          go_wp2
          refine bodyPost_ret (v := .tuple #[.agg #[.int .i64 (f 0), .int .i64 0, .int .i64 1], .bool true]) (by simp [results, Tryz.results90, go_sem]) rfl ⟨by rw [HI.out]; rfl, ?_⟩
          exact (Below.refl _ _).alloc (Nat.le_refl _) _
      · have e1 := i64_and31 (f 0) hc0 hc1
        have HB1 : Hid (f 0 % 32 = ac f 0) := (hb_2 (f 0) HZ.out).symm
        clear HSZ HL HZ
        go_wp2
        go_loop [9, 72] (fun r i => ∃ k : Nat, k ≤ 1 ∧ i = .int .i64 k ∧ r = .int .i64 (ac f k)) (fun _ i => 1 - (intOf i).toNat)
        case atStart => exact ⟨0, by omega, rfl, by rw [HB1.out]⟩
        case round =>
          obtain ⟨k, hk, rfl, rfl⟩ := hrel
          obtain ⟨ha0, ha1⟩ := ac_le f hc0 k (by omega)
          by_cases hkj : k < 1
          · have hce : ∀ o, (w.alloc o).cell? ⟨b, off + 1 + k, none⟩ = some (.int .u8 (f (k + 1))) := fun o => by
              have := cells_alloc HC.out o (k + 1) (by omega)
              rw [show off + 1 + k = off + (k + 1) from by omega]; exact this
            obtain ⟨hd0, hd1⟩ := HF.out (k + 1)
            have e63 := u8_and63 (f (k + 1)) hd0 (by omega)
            go_wp2
            go_round
            case rel => exact ⟨k + 1, by omega, by go_num, rfl⟩
            case measure => simp [intOf]; omega
          · obtain rfl : k = 1 := by omega
            go_wp2
            refine bodyPost_ret (v := .tuple #[.agg #[.int .i64 (ac f 1), .int .i64 0, .int .i64 2], .bool true]) (by simp [results, Tryz.results90, go_sem]) rfl ⟨by rw [HI.out]; rfl, ?_⟩
            exact (Below.refl _ _).alloc (Nat.le_refl _) _
      · have e1 := i64_and15 (f 0) hc0 hc1
        have HB1 : Hid (f 0 % 16 = ac f 0) := (hb_3 (f 0) HZ.out).symm
        clear HSZ HL HZ
        go_wp2
        go_loop [9, 72] (fun r i => ∃ k : Nat, k ≤ 2 ∧ i = .int .i64 k ∧ r = .int .i64 (ac f k)) (fun _ i => 2 - (intOf i).toNat)
        case atStart => exact ⟨0, by omega, rfl, by rw [HB1.out]⟩
        case round =>
          obtain ⟨k, hk, rfl, rfl⟩ := hrel
          obtain ⟨ha0, ha1⟩ := ac_le f hc0 k (by omega)
          by_cases hkj : k < 2
          · have hce : ∀ o, (w.alloc o).cell? ⟨b, off + 1 + k, none⟩ = some (.int .u8 (f (k + 1))) := fun o => by
              have := cells_alloc HC.out o (k + 1) (by omega)
              rw [show off + 1 + k = off + (k + 1) from by omega]; exact this
            obtain ⟨hd0, hd1⟩ := HF.out (k + 1)
            have e63 := u8_and63 (f (k + 1)) hd0 (by omega)
            go_wp2
            go_round
            case rel => exact ⟨k + 1, by omega, by go_num, rfl⟩
            case measure => simp [intOf]; omega
          · obtain rfl : k = 2 := by omega
            go_wp2
            refine bodyPost_ret (v := .tuple #[.agg #[.int .i64 (ac f 2), .int .i64 0, .int .i64 3], .bool true]) (by simp [results, Tryz.results90, go_sem]) rfl ⟨by rw [HI.out]; rfl, ?_⟩
            exact (Below.refl _ _).alloc (Nat.le_refl _) _
      · have e1 := i64_and7 (f 0) hc0 hc1
        have HB1 : Hid (f 0 % 8 = ac f 0) := (hb_4 (f 0) HZ.out).symm
        clear HSZ HL HZ
        go_wp2
        go_loop [9, 72] (fun r i => ∃ k : Nat, k ≤ 3 ∧ i = .int .i64 k ∧ r = .int .i64 (ac f k)) (fun _ i => 3 - (intOf i).toNat)
        case atStart => exact ⟨0, by omega, rfl, by rw [HB1.out]⟩
        case round =>
          obtain ⟨k, hk, rfl, rfl⟩ := hrel
          obtain ⟨ha0, ha1⟩ := ac_le f hc0 k (by omega)
          by_cases hkj : k < 3
          · have hce : ∀ o, (w.alloc o).cell? ⟨b, off + 1 + k, none⟩ = some (.int .u8 (f (k + 1))) := fun o => by
              have := cells_alloc HC.out o (k + 1) (by omega)
              rw [show off + 1 + k = off + (k + 1) from by omega]; exact this
            obtain ⟨hd0, hd1⟩ := HF.out (k + 1)
            have e63 := u8_and63 (f (k + 1)) hd0 (by omega)
            go_wp2
            go_round
            case rel => exact ⟨k + 1, by omega, by go_num, rfl⟩
            case measure => simp [intOf]; omega
          · obtain rfl : k = 3 := by omega
            go_wp2
            refine bodyPost_ret (v := .tuple #[.agg #[.int .i64 (ac f 3), .int .i64 0, .int .i64 4], .bool true]) (by simp [results, Tryz.results90, go_sem]) rfl ⟨by rw [HI.out]; rfl, ?_⟩
            exact (Below.refl _ _).alloc (Nat.le_refl _) _
    · have hjS2 : j + 1 < S := by omega
      clear hA
      by_cases hB : j + 1 < n
      · have hB' : ((j + 1 : Nat) : Int) < n := by omega
        have hce := fun o => cells_alloc HC.out o (j + 1) hB
        obtain ⟨hd0, hd1⟩ := HF.out (j + 1)
        have BND := rbounds_any (f 0) (j + 1) (w.alloc (.cells #[.int .i64 0, .int .i64 0, .int .i64 0] 88)) hc0 hc1 (by omega) (by rw [HZ.out]; omega)
        have hl := lob_le (f 0) (j + 1)
        have hh := hib_le (f 0) (j + 1)
        by_cases h1 : f (j + 1) < lob (f 0) (j + 1)
        · have HI : Hid (it f n 0 = (65533, j + 1, false)) := HJ.out.symm.trans (left_stop f n S j hjS2 (by omega))
          clear HJ
          go_wp2_with (go_at_call 118; refine BND.mono ?_; rintro e w' ⟨rfl, rfl⟩)
          refine bodyPost_ret (v := .tuple #[.agg #[.int .i64 65533, .int .i64 0, .int .i64 (j + 1 : Nat)], .bool false]) (by simp [results, Tryz.results90, go_sem]) rfl ⟨by rw [HI.out], ?_⟩
          exact (Below.refl _ _).alloc (Nat.le_refl _) _
        · have h1' : lob (f 0) (j + 1) ≤ f (j + 1) := by omega
          clear h1
          by_cases h2 : hib (f 0) (j + 1) < f (j + 1)
          · have HI : Hid (it f n 0 = (65533, j + 1, false)) := HJ.out.symm.trans (left_stop f n S j hjS2 (by omega))
            clear HJ
            go_wp2_with (go_at_call 118; refine BND.mono ?_; rintro e w' ⟨rfl, rfl⟩)
            refine bodyPost_ret (v := .tuple #[.agg #[.int .i64 65533, .int .i64 0, .int .i64 (j + 1 : Nat)], .bool false]) (by simp [results, Tryz.results90, go_sem]) rfl ⟨by rw [HI.out], ?_⟩
            exact (Below.refl _ _).alloc (Nat.le_refl _) _
          · have h2' : f (j + 1) ≤ hib (f 0) (j + 1) := by omega
            have HI : Hid (left f n S (j + 1) = it f n 0) := (left_go f n S j hjS2 (by omega)).trans HJ.out
            clear HJ h2
            go_wp2_with (go_at_call 118; refine BND.mono ?_; rintro e w' ⟨rfl, rfl⟩)
            go_roundw
            case rel => exact ⟨j + 1, by trivial, by go_num, by omega, by omega, HI⟩
            case measure => simp [intOf]; omega
      · have HI : Hid (it f n 0 = (65533, j + 1, false)) := HJ.out.symm.trans (left_stop f n S j hjS2 (by omega))
        clear HJ
        go_wp2
        refine bodyPost_ret (v := .tuple #[.agg #[.int .i64 65533, .int .i64 0, .int .i64 (j + 1 : Nat)], .bool false]) (by simp [results, Tryz.results90, go_sem]) rfl ⟨by rw [HI.out], ?_⟩
        exact (Below.refl _ _).alloc (Nat.le_refl _) _

/-- The item at the beginning of a row of bytes, by the document's own way. -/
theorem first_any (b off n cap : Nat) (f : Nat → Int) (w : World) (hc : ∀ i, i < n → w.cell? ⟨b, off + i, none⟩ = some (.int .u8 (f i)))
    (ha : 0 < n) (hn : n ≤ 9223372036854775807) (hcap : n ≤ cap) (hf : ∀ i, 0 ≤ f i ∧ f i ≤ 255) :
    Calls Tryz.prog 90 #[.slice (some ⟨b, off, none⟩) n cap] w fun e w' =>
      e = .returned (.tuple #[.agg #[.int .i64 (it f n 0).1, .int .i64 0, .int .i64 (it f n 0).2.1], .bool (it f n 0).2.2]) ∧ Below w.heap.size w w' := by
  by_cases hz : sz (f 0) = 0
  · have e : it f n 0 = (65533, 0 + 1, false) := by unfold it; rw [if_pos hz]
    rw [e]
    exact first_zero b off n cap f w hc ha hn hf hz
  · exact first_more b off n cap (sz (f 0)) f w hc ha hn hcap hf rfl (by omega)
end Go.Proofs.YtlgkfnecahgedaaGreatDoor.utf
end

section
/- What the document's Decode and Valid answer of a row of bytes: the same items, and the same word on whether they are well-formed. -/
set_option linter.unusedVariables false
set_option linter.unusedSimpArgs false
namespace Go.Proofs.YtlgkfnecahgedaaGreatDoor.utf
open Go.RowKit

/-- first at the rest of a row. -/
theorem first_at (b off n cap : Nat) (f : Nat → Int) (a : Nat) (w : World) (hc : ∀ i, i < n → w.cell? ⟨b, off + i, none⟩ = some (.int .u8 (f i)))
    (ha : a < n) (hn : n ≤ 9223372036854775807) (hcap : n ≤ cap) (hf : ∀ i, 0 ≤ f i ∧ f i ≤ 255) :
    Calls Tryz.prog 90 #[.slice (some ⟨b, off + a, none⟩) (n - a) (cap - a)] w fun e w' =>
      e = .returned (.tuple #[.agg #[.int .i64 (it f n a).1, .int .i64 0, .int .i64 ((it f n a).2.1 - a : Nat)], .bool (it f n a).2.2]) ∧ Below w.heap.size w w' := by
  have h := first_any b (off + a) (n - a) (cap - a) (fun i => f (a + i)) w (fun i hi => by rw [Nat.add_assoc]; exact hc (a + i) (by omega)) (by omega) (by omega) (by omega) (fun i => hf (a + i))
  rw [it_shift, show a + (n - a) = n from by omega] at h
  exact h

end Go.Proofs.YtlgkfnecahgedaaGreatDoor.utf
end

section
/- What bytes.Equal answers of two lists of bytes, and that the statements' own small call (awake) answers true; nothing that was there changes. -/
set_option linter.unusedVariables false
set_option linter.unusedSimpArgs false
namespace Go.Proofs.YtlgkfnecahgedaaGreatDoor.utf
open Go.RowKit

/-- The value reads as these bytes: what its conversion to a string gives. -/
def Bts (w : World) (v : Value) (xs : List Int) : Prop := (convert 22 9 v).run Tryz.prog w = .ok (.string (strOfNums xs)) w

theorem bts_cells {w : World} {b off : Nat} {xs : List Int} (cap : Nat) (h : ∀ i, i < xs.length → w.cell? ⟨b, off + i, none⟩ = some (.int .u8 (xs.getD i 0))) : Bts w (.slice (some ⟨b, off, none⟩) xs.length cap) xs :=
  run_convert_bytes_arg (P := Tryz.prog) w 22 5 Tryz.underlying22 Tryz.underlying5 b off xs.length cap xs rfl h 9 Tryz.underlying9
theorem bts_block {w : World} {g : Nat} {xs : List Int} (cap : Nat) (h : w.heap[g]? = some (.cells (xs.map (Value.int .u8)).toArray 5 (0, 0))) : Bts w (.slice (some ⟨g, 0, none⟩) xs.length cap) xs := by
  refine bts_cells cap fun i hi => ?_
  simp [World.cell?, h, hi]

end Go.Proofs.YtlgkfnecahgedaaGreatDoor.utf
end

section
/- What slices.Equal answers of two rows of the same items: true. -/
set_option linter.unusedVariables false
set_option linter.unusedSimpArgs false
namespace Go.Proofs.YtlgkfnecahgedaaGreatDoor.utf
open Go.RowKit

/-- The cells of n items, each of three numbers. -/
def IsI (w : World) (b : Nat) (n : Nat) (x y z : Nat → Int) : Prop :=
  ∀ i, i < n → w.cell? ⟨b, i * 3, none⟩ = some (.int .i64 (x i)) ∧ w.cell? ⟨b, i * 3 + 1, none⟩ = some (.int .i64 (y i)) ∧ w.cell? ⟨b, i * 3 + 1 + 1, none⟩ = some (.int .i64 (z i))

end Go.Proofs.YtlgkfnecahgedaaGreatDoor.utf
end

section
/- The walk of UtfStands: the items of bytes stand one behind the other, from 0 to the end. -/
set_option linter.unusedVariables false
set_option linter.unusedSimpArgs false
namespace Go.Proofs.YtlgkfnecahgedaaGreatDoor.utf
open Go.RowKit

theorem drop_step {f : Nat → Int} {n a k : Nat} {l : List (Int × Nat × Nat)} (h : l.drop k = items f n a) (hk : k < l.length) :
    a < n ∧ l.getD k (0, 0, 0) = ((it f n a).1, a, (it f n a).2.1) ∧ l.drop (k + 1) = items f n (it f n a).2.1 := by
  have ha : a < n := by
    rcases Nat.lt_or_ge a n with h1 | h1
    · exact h1
    · rw [items_end f n a h1] at h
      have := List.drop_eq_nil_iff.1 h
      omega
  rw [items_step f n a ha, List.drop_eq_getElem_cons hk] at h
  have h' := List.cons.inj h
  refine ⟨ha, ?_, h'.2⟩
  rw [List.getD_eq_getElem?_getD, List.getElem?_eq_getElem hk]
  exact h'.1
end Go.Proofs.YtlgkfnecahgedaaGreatDoor.utf
end

section
/- What utf.Next, utf.Prev and the document's Next and Prev answer; the walk of UtfSteps. -/
set_option linter.unusedVariables false
set_option linter.unusedSimpArgs false
namespace Go.Proofs.YtlgkfnecahgedaaGreatDoor.utf
open Go.RowKit

theorem next_no (ao : Option Addr) (n cap : Nat) (a : Int) (w : World) (ha : a < 0 ∨ (n : Int) ≤ a) :
    Calls Tryz.prog 66 #[.slice ao n cap, .int .i64 a] w fun e w' => e = .returned (.tuple #[.agg #[.int .i64 0, .int .i64 0, .int .i64 0], .bool false]) ∧ Below w.heap.size w w' := by
  rcases ha with ha | ha
  · go_enter Tryz.func66, Tryz.ntmps66
    go_wp2
    refine bodyPost_ret (v := .tuple #[.agg #[.int .i64 0, .int .i64 0, .int .i64 0], .bool false]) (by simp [results, Tryz.results66, go_sem]) rfl ⟨rfl, ?_⟩
    exact (Below.refl _ _).alloc (Nat.le_refl _) _
  · have hp : 0 ≤ a := by omega
    go_enter Tryz.func66, Tryz.ntmps66
    go_wp2
    refine bodyPost_ret (v := .tuple #[.agg #[.int .i64 0, .int .i64 0, .int .i64 0], .bool false]) (by simp [results, Tryz.results66, go_sem]) rfl ⟨rfl, ?_⟩
    exact (Below.refl _ _).alloc (Nat.le_refl _) _
/-- A block's cells as the walk asks for them. -/
theorem blk3 {w : World} {g : Nat} {x y z : Value} {t : TypeId} (h : w.heap[g]? = some (.cells #[x, y, z] t (0, 0))) :
    w.cell? ⟨g, 0, none⟩ = some x ∧ w.cell? ⟨g, 1, none⟩ = some y ∧ w.cell? ⟨g, 2, none⟩ = some z ∧ w.frozen? ⟨g, 0, none⟩ = false ∧ w.frozen? ⟨g, 1, none⟩ = false ∧ w.frozen? ⟨g, 2, none⟩ = false := by
  simp [World.cell?, World.frozen?, h]

theorem next_yes (b off n cap : Nat) (f : Nat → Int) (a : Nat) (w : World) (hc : ∀ i, i < n → w.cell? ⟨b, off + i, none⟩ = some (.int .u8 (f i)))
    (ha : a < n) (hn : n ≤ 9223372036854775807) (hf : ∀ i, 0 ≤ f i ∧ f i ≤ 255) :
    Calls Tryz.prog 66 #[.slice (some ⟨b, off, none⟩) n cap, .int .i64 a] w fun e w' =>
      e = .returned (.tuple #[.agg #[.int .i64 (it f n a).1, .int .i64 a, .int .i64 (it f n a).2.1], .bool true]) ∧ Below w.heap.size w w' := by
  have IT := item_any b off n cap f a (w.alloc (.cells #[.int .i64 0, .int .i64 0, .int .i64 0] 88)) (cells_alloc hc _) ha hn hf
  have HB0 := (Below.refl w.heap.size w).alloc (Nat.le_refl _) (.cells #[.int .i64 0, .int .i64 0, .int .i64 0] 88)
  have HG : Hid ((w.alloc (.cells #[.int .i64 0, .int .i64 0, .int .i64 0] 88)).heap[w.heap.size]? = some (.cells #[.int .i64 0, .int .i64 0, .int .i64 0] 88 (0, 0))) := heap_alloc_new w _
  clear hc hf
  generalize (it f n a).2.2 = K at *
  generalize (it f n a).2.1 = E at *
  generalize (it f n a).1 = R at *
  go_enter Tryz.func66, Tryz.ntmps66
  go_wp2_with fail
  refine IT.mono ?_
  rintro e w1 ⟨rfl, hb1⟩
  have hs := hb1.size
  simp only [World.size_alloc] at hs
  obtain ⟨g0, g1, g2, z0, z1, z2⟩ := blk3 ((hb1.block w.heap.size (by simp)).trans HG.out)
  have R2 := HB0.trans (hb1.mono (by simp))
  have hlt : w.heap.size < w1.heap.size := by omega
  clear IT HG hb1 HB0
  have R3 := ((R2.setCell (p := ⟨w.heap.size, 0, none⟩) (Nat.le_refl _) (.int .i64 R)).setCell (p := ⟨w.heap.size, 1, none⟩) (Nat.le_refl _) (.int .i64 a)).setCell (p := ⟨w.heap.size, 2, none⟩) (Nat.le_refl _) (.int .i64 E)
  have R4 := R3.alloc R3.size (.cells #[.int .i64 R, .int .i64 a, .int .i64 E] 88)
  clear R2 R3
  go_wp2
  refine bodyPost_ret (v := .tuple #[.agg #[.int .i64 R, .int .i64 a, .int .i64 E], .bool true]) (by simp [results, Tryz.results66, go_sem, g0, g1, g2, hlt]) rfl ⟨rfl, R4⟩

theorem rnext_yes (b off n cap : Nat) (f : Nat → Int) (a : Nat) (w : World) (hc : ∀ i, i < n → w.cell? ⟨b, off + i, none⟩ = some (.int .u8 (f i)))
    (ha : a < n) (hn : n ≤ 9223372036854775807) (hcap : n ≤ cap) (hcm : cap ≤ 9223372036854775807) (hf : ∀ i, 0 ≤ f i ∧ f i ≤ 255) :
    Calls Tryz.prog 53 #[.slice (some ⟨b, off, none⟩) n cap, .int .i64 a] w fun e w' =>
      e = .returned (.tuple #[.agg #[.int .i64 (it f n a).1, .int .i64 a, .int .i64 (it f n a).2.1], .bool true]) ∧ Below w.heap.size w w' := by
  have IT := first_at b off n cap f a (w.alloc (.cells #[.int .i64 0, .int .i64 0, .int .i64 0] 88)) (cells_alloc hc _) ha hn hcap hf
  have HB0 := (Below.refl w.heap.size w).alloc (Nat.le_refl _) (.cells #[.int .i64 0, .int .i64 0, .int .i64 0] 88)
  have HG : Hid ((w.alloc (.cells #[.int .i64 0, .int .i64 0, .int .i64 0] 88)).heap[w.heap.size]? = some (.cells #[.int .i64 0, .int .i64 0, .int .i64 0] 88 (0, 0))) := heap_alloc_new w _
  have hie := it_end f n a ha
  obtain ⟨D, hD⟩ : ∃ D, (it f n a).2.1 = a + D := ⟨(it f n a).2.1 - a, by omega⟩
  rw [hD] at IT hie ⊢
  rw [show a + D - a = D from by omega] at IT
  rw [Int.natCast_add]
  clear hc hf hD
  generalize (it f n a).2.2 = K at *
  generalize (it f n a).1 = R at *
  go_enter Tryz.func53, Tryz.ntmps53
  go_wp2_with fail
  refine IT.mono ?_
  rintro e w1 ⟨rfl, hb1⟩
  have hs := hb1.size
  simp only [World.size_alloc] at hs
  obtain ⟨g0, g1, g2, z0, z1, z2⟩ := blk3 ((hb1.block w.heap.size (by simp)).trans HG.out)
  have R2 := HB0.trans (hb1.mono (by simp))
  have hlt : w.heap.size < w1.heap.size := by omega
  clear IT HG hb1 HB0
  have R3 := ((R2.setCell (p := ⟨w.heap.size, 0, none⟩) (Nat.le_refl _) (.int .i64 R)).setCell (p := ⟨w.heap.size, 1, none⟩) (Nat.le_refl _) (.int .i64 a)).setCell (p := ⟨w.heap.size, 2, none⟩) (Nat.le_refl _) (.int .i64 ((a : Int) + (D : Int)))
  have R4 := R3.alloc R3.size (.cells #[.int .i64 R, .int .i64 a, .int .i64 ((a : Int) + (D : Int))] 88)
  clear R2 R3
  go_wp2
  refine bodyPost_ret (v := .tuple #[.agg #[.int .i64 R, .int .i64 a, .int .i64 ((a : Int) + (D : Int))], .bool true]) (by simp [results, Tryz.results53, go_sem, g0, g1, g2, hlt]) rfl ⟨rfl, R4⟩
end Go.Proofs.YtlgkfnecahgedaaGreatDoor.utf
end

section
/- A code point's bytes are one item, of it; the walk of UtfBack. -/
set_option linter.unusedVariables false
set_option linter.unusedSimpArgs false
namespace Go.Proofs.YtlgkfnecahgedaaGreatDoor.utf
open Go.RowKit

theorem it_1 (f : Nat → Int) (n a : Nat) (s : sz (f a) = 1) : it f n a = (hb (f a), a + 1, true) := by
  unfold it; rw [if_neg (by omega), s]; rfl
theorem it_2 (f : Nat → Int) (n a : Nat) (s : sz (f a) = 2) (h1 : a + 1 < n ∧ lo (f a) ≤ f (a + 1) ∧ f (a + 1) ≤ hi (f a)) : it f n a = (hb (f a) * 64 + f (a + 1) % 64, a + 2, true) := by
  unfold it; rw [if_neg (by omega), s, run_go _ _ _ _ _ _ _ (by decide) h1]; rfl
theorem it_3 (f : Nat → Int) (n a : Nat) (s : sz (f a) = 3) (h1 : a + 1 < n ∧ lo (f a) ≤ f (a + 1) ∧ f (a + 1) ≤ hi (f a)) (h2 : a + 2 < n ∧ 128 ≤ f (a + 2) ∧ f (a + 2) ≤ 191) : it f n a = ((hb (f a) * 64 + f (a + 1) % 64) * 64 + f (a + 2) % 64, a + 3, true) := by
  unfold it; rw [if_neg (by omega), s, run_go _ _ _ _ _ _ _ (by decide) h1, run_go _ _ _ _ _ _ _ (by decide) h2]; rfl
theorem it_4 (f : Nat → Int) (n a : Nat) (s : sz (f a) = 4) (h1 : a + 1 < n ∧ lo (f a) ≤ f (a + 1) ∧ f (a + 1) ≤ hi (f a)) (h2 : a + 2 < n ∧ 128 ≤ f (a + 2) ∧ f (a + 2) ≤ 191) (h3 : a + 3 < n ∧ 128 ≤ f (a + 3) ∧ f (a + 3) ≤ 191) :
    it f n a = (((hb (f a) * 64 + f (a + 1) % 64) * 64 + f (a + 2) % 64) * 64 + f (a + 3) % 64, a + 4, true) := by
  unfold it; rw [if_neg (by omega), s, run_go _ _ _ _ _ _ _ (by decide) h1, run_go _ _ _ _ _ _ _ (by decide) h2, run_go _ _ _ _ _ _ _ (by decide) h3]; rfl

theorem it_enc (r : Int) (h : len r ≠ 0) : it (fun i => (enc r).getD i 0) (enc r).length 0 = (r, (enc r).length, true) := by
  obtain ⟨h0, h1, h2, c | c | c | c⟩ := len_cases r h
  · have e : enc r = [r] := by unfold enc; rw [if_pos c.1]
    rw [e]
    have s : sz r = 1 := by unfold sz; (repeat' split) <;> omega
    have b : hb r = r := by unfold hb; (repeat' split) <;> omega
    rw [it_1 _ _ _ s]
    simp [b]
  · have e : enc r = [192 + r / 64, 128 + r % 64] := by unfold enc; rw [if_neg (by omega), if_pos c.1]
    rw [e]
    have s : sz (192 + r / 64) = 2 := by unfold sz; (repeat' split) <;> omega
    have b : hb (192 + r / 64) = r / 64 := by unfold hb; (repeat' split) <;> omega
    have l : lo (192 + r / 64) ≤ 128 + r % 64 := by unfold lo; (repeat' split) <;> omega
    have m : 128 + r % 64 ≤ hi (192 + r / 64) := by unfold hi; (repeat' split) <;> omega
    rw [it_2 _ _ _ s ⟨by simp, l, m⟩]
    show (hb (192 + r / 64) * 64 + (128 + r % 64) % 64, 2, true) = (r, 2, true)
    rw [b, show r / 64 * 64 + (128 + r % 64) % 64 = r from by omega]
  · have e : enc r = [224 + r / 64 / 64, 128 + r / 64 % 64, 128 + r % 64] := by unfold enc; rw [if_neg (by omega), if_neg (by omega), if_pos c.1]
    rw [e]
    have s : sz (224 + r / 64 / 64) = 3 := by unfold sz; (repeat' split) <;> omega
    have b : hb (224 + r / 64 / 64) = r / 64 / 64 := by unfold hb; (repeat' split) <;> omega
    have l : lo (224 + r / 64 / 64) ≤ 128 + r / 64 % 64 := by unfold lo; (repeat' split) <;> omega
    have m : 128 + r / 64 % 64 ≤ hi (224 + r / 64 / 64) := by unfold hi; (repeat' split) <;> omega
    rw [it_3 _ _ _ s ⟨by simp, l, m⟩ ⟨by simp, (show (128 : Int) ≤ 128 + r % 64 from by omega), (show 128 + r % 64 ≤ 191 from by omega)⟩]
    show ((hb (224 + r / 64 / 64) * 64 + (128 + r / 64 % 64) % 64) * 64 + (128 + r % 64) % 64, 3, true) = (r, 3, true)
    rw [b, show (r / 64 / 64 * 64 + (128 + r / 64 % 64) % 64) * 64 + (128 + r % 64) % 64 = r from by omega]
  · have e : enc r = [240 + r / 64 / 64 / 64, 128 + r / 64 / 64 % 64, 128 + r / 64 % 64, 128 + r % 64] := by unfold enc; rw [if_neg (by omega), if_neg (by omega), if_neg (by omega), if_pos c.1]
    rw [e]
    have s : sz (240 + r / 64 / 64 / 64) = 4 := by unfold sz; (repeat' split) <;> omega
    have b : hb (240 + r / 64 / 64 / 64) = r / 64 / 64 / 64 := by unfold hb; (repeat' split) <;> omega
    have l : lo (240 + r / 64 / 64 / 64) ≤ 128 + r / 64 / 64 % 64 := by unfold lo; (repeat' split) <;> omega
    have m : 128 + r / 64 / 64 % 64 ≤ hi (240 + r / 64 / 64 / 64) := by unfold hi; (repeat' split) <;> omega
    rw [it_4 _ _ _ s ⟨by simp, l, m⟩ ⟨by simp, (show (128 : Int) ≤ 128 + r / 64 % 64 from by omega), (show 128 + r / 64 % 64 ≤ 191 from by omega)⟩ ⟨by simp, (show (128 : Int) ≤ 128 + r % 64 from by omega), (show 128 + r % 64 ≤ 191 from by omega)⟩]
    show (((hb (240 + r / 64 / 64 / 64) * 64 + (128 + r / 64 / 64 % 64) % 64) * 64 + (128 + r / 64 % 64) % 64) * 64 + (128 + r % 64) % 64, 4, true) = (r, 4, true)
    rw [b, show ((r / 64 / 64 / 64 * 64 + (128 + r / 64 / 64 % 64) % 64) * 64 + (128 + r / 64 % 64) % 64) * 64 + (128 + r % 64) % 64 = r from by omega]

theorem enc_pos (r : Int) (h : len r ≠ 0) : 0 < (enc r).length ∧ (enc r).length ≤ 4 := by
  obtain ⟨h0, h1, h2, c | c | c | c⟩ := len_cases r h <;> unfold enc <;> simp [c.1]
end Go.Proofs.YtlgkfnecahgedaaGreatDoor.utf
end

section
/- What bytes.Clone answers of a row of bytes: a row of the same bytes; and the walk of UtfDecodes. -/
set_option linter.unusedVariables false
set_option linter.unusedSimpArgs false
namespace Go.Proofs.YtlgkfnecahgedaaGreatDoor.utf
open Go.RowKit

theorem infoByte : (Tryz.prog.info? 5).map (fun i => (i.zero, i.size, i.bytes)) = some (some (.int .u8 0), 1, 1) := by kernel_rfl

/-- The first n bytes as a list. -/
def lst (f : Nat → Int) (n : Nat) : List Int := (List.range n).map f
theorem lst_get (f : Nat → Int) (n i : Nat) (h : i < n) : (lst f n).getD i 0 = f i := by simp [lst, List.getD, h]
theorem lst_get? (f : Nat → Int) (n i : Nat) (h : i < n) : ((lst f n).map (Value.int .u8))[i]? = some (.int .u8 (f i)) := by simp [lst, h]

theorem isB_own {w : World} {B n : Nat} {v : Value} {f : Nat → Int} (h : w.ownsRow B 5 1 v n ((lst f n).map (Value.int .u8))) :
    ∃ ao cap, v = .slice ao n cap ∧ IsB w ao n f ∧ n ≤ cap ∧ cap ≤ 9223372036854775807 ∧ (ao = none → n = 0) := by
  rcases h.2 with ⟨rfl, rfl⟩ | ⟨g, cap, cur, rfl, _, _, hc, hm, _⟩
  · exact ⟨none, 0, rfl, .inl rfl, by omega, by omega, fun _ => rfl⟩
  · unfold maxLen at hm
    exact ⟨some ⟨g, 0, none⟩, cap, rfl, .inr ⟨g, 0, rfl, fun i hi => by rw [Nat.zero_add]; exact (h.cellAt i (by omega)).trans (lst_get? f n i hi)⟩, hc, by omega, fun h => by simp at h⟩

theorem clone_nil (cap : Nat) (w : World) :
    Calls Tryz.prog 8 #[.slice none 0 cap] w fun e w' => e = .returned (.slice none 0 0) ∧ w' = w := by
  have he := fun (w : World) (a : Option Addr) (n c : Nat) => Lib.run_eql_slice_nil (P := Tryz.prog) w 22 5 a n c 0 0 Tryz.underlying22
  go_enter Tryz.func8, Tryz.ntmps8
  go_wp2
  go_ret
  exact ⟨rfl, rfl⟩

theorem clone_some (ad : Addr) (n cap : Nat) (f : Nat → Int) (w : World) (hB : IsB w (some ad) n f) (hn : n ≤ 140737488355328) :
    Calls Tryz.prog 8 #[.slice (some ad) n cap] w fun e w' => ∃ v, e = .returned v ∧ w'.ownsRow w.heap.size 5 1 v n ((lst f n).map (Value.int .u8)) ∧ Below w.heap.size w w' := by
  obtain ⟨i0, hi, hz0, hz1, hz2⟩ := info_parts infoByte
  have he := fun (w : World) (a : Option Addr) (n c : Nat) => Lib.run_eql_slice_nil (P := Tryz.prog) w 22 5 a n c 0 0 Tryz.underlying22
  have HN : Hid (∀ (o : Obj) (j : Nat) (u : Value), ((lst f n).map (Value.int .u8))[j]? = some u → (w.alloc o).cell? (ad.add j) = some u) := by
    intro o j u hj
    have hjn : j < n := by
      rcases Nat.lt_or_ge j n with h | h
      · exact h
      · rw [List.getElem?_eq_none (by simpa [lst] using h)] at hj; simp at hj
    rw [lst_get? f n j hjn] at hj
    rcases hB with h0 | ⟨b, off, hbo, hc⟩
    · omega
    · simp only [Option.some.injEq] at hbo
      subst hbo
      rw [Addr.add_lit, ← hj]
      exact cells_alloc hc o j hjn
  clear hB
  go_enter Tryz.func8, Tryz.ntmps8
  go_wp2_with (at_builtin; refine wpList_append_own _ rfl _ _ 22 rfl w.heap.size 5 i0 (.int .u8 0) 1 1 Tryz.underlying22 hi hz0 hz1 hz2 rfl (by decide) _ _ _ rfl (World.ownsRow_lit (base := w.heap.size) (e := 5) (size := 1) w #[] 0 (Nat.le_refl _) (by decide) rfl) ad n cap ((lst f n).map (Value.int .u8)) rfl ?c0 ?c1 ?c2 ?c3 ?c4 ?c5 ?_)
  case c0 => simp [lst]
  case c1 => exact HN.out _
  case c2 => intro u hu; simp at hu; obtain ⟨x, _, rfl⟩ := hu; rfl
  case c3 => unfold maxLen; omega
  case c4 => omega
  case c5 => simp
  · intro v' w1 hown hgrow _
    have R2 := Below.grown ((Below.refl w.heap.size w).alloc (Nat.le_refl _) (.cells #[] 5)) hgrow (by simp) (fun k hk => by simp [Value.ownBlock] at hk; omega)
    have R1 : w1.ownsRow w.heap.size 5 1 v' n ((lst f n).map (Value.int .u8)) := by simpa using hown
    clear hown hgrow
    go_wp2
    go_ret
    exact ⟨_, rfl, R1, R2⟩

/-- A clone reads as the row that it is of. -/
theorem clone_any (ao : Option Addr) (n cap : Nat) (f : Nat → Int) (w : World) (hB : IsB w ao n f) (hnil : ao = none → n = 0) (hn : n ≤ 140737488355328) :
    Calls Tryz.prog 8 #[.slice ao n cap] w fun e w' => ∃ ao' cap', e = .returned (.slice ao' n cap') ∧ IsB w' ao' n f ∧ n ≤ cap' ∧ cap' ≤ 9223372036854775807 ∧ (ao' = none → n = 0) ∧ Below w.heap.size w w' := by
  cases ao with
  | none =>
    obtain rfl := hnil rfl
    refine (clone_nil cap w).mono ?_
    rintro e w' ⟨rfl, rfl⟩
    exact ⟨none, 0, rfl, .inl rfl, by omega, by omega, fun _ => rfl, Below.refl _ _⟩
  | some ad =>
    refine (clone_some ad n cap f w hB hn).mono ?_
    rintro e w' ⟨v, rfl, hown, hb⟩
    obtain ⟨ao', cap', rfl, h1, h2, h3, h4⟩ := isB_own hown
    exact ⟨ao', cap', rfl, h1, h2, h3, h4, hb⟩

end Go.Proofs.YtlgkfnecahgedaaGreatDoor.utf
end

section
/- Plain mathematics: a well-formed item's code point has just its bytes, a malformed part's has not; so the bytes written anew are the bytes read where, and only where, all are well-formed. -/
set_option linter.unusedVariables false
set_option linter.unusedSimpArgs false
namespace Go.Proofs.YtlgkfnecahgedaaGreatDoor.utf
open Go.RowKit

/-- The bytes from a place up to another. -/
def seg (f : Nat → Int) (a m : Nat) : List Int := (List.range m).map fun i => f (a + i)
theorem seg_1 (f : Nat → Int) (a : Nat) : seg f a 1 = [f a] := by simp [seg]
theorem seg_2 (f : Nat → Int) (a : Nat) : seg f a 2 = [f a, f (a + 1)] := by simp [seg, List.range_succ]
theorem seg_3 (f : Nat → Int) (a : Nat) : seg f a 3 = [f a, f (a + 1), f (a + 2)] := by simp [seg, List.range_succ]
theorem seg_4 (f : Nat → Int) (a : Nat) : seg f a 4 = [f a, f (a + 1), f (a + 2), f (a + 3)] := by simp [seg, List.range_succ]

theorem sz_range (c : Int) : (sz c = 1 → c ≤ 127) ∧ (sz c = 2 → 194 ≤ c ∧ c ≤ 223) ∧ (sz c = 3 → 224 ≤ c ∧ c ≤ 239) ∧ (sz c = 4 → 240 ≤ c ∧ c ≤ 244) := by
  unfold sz; (repeat' split) <;> omega
theorem lo_range (c : Int) : (c = 224 → lo c = 160) ∧ (c = 240 → lo c = 144) ∧ (c ≠ 224 → c ≠ 240 → lo c = 128) := by unfold lo; (repeat' split) <;> omega
theorem hi_range (c : Int) : (c = 237 → hi c = 159) ∧ (c = 244 → hi c = 143) ∧ (c ≠ 237 → c ≠ 244 → hi c = 191) := by unfold hi; (repeat' split) <;> omega

theorem len_1 (r : Int) (h0 : 0 ≤ r) (h1 : r ≤ 127) : len r = 1 := by unfold len; (repeat' split) <;> omega
theorem len_2 (r : Int) (h0 : 128 ≤ r) (h1 : r ≤ 2047) : len r = 2 := by unfold len; (repeat' split) <;> omega
theorem len_3 (r : Int) (h0 : 2048 ≤ r) (h1 : r ≤ 65535) (h2 : ¬ (55296 ≤ r ∧ r ≤ 57343)) : len r = 3 := by unfold len; (repeat' split) <;> omega
theorem len_4 (r : Int) (h0 : 65536 ≤ r) (h1 : r ≤ 1114111) : len r = 4 := by unfold len; (repeat' split) <;> omega

theorem enc_of_1 (r : Int) (c : len r = 1) : enc r = [r] := by unfold enc; rw [if_pos c]
theorem enc_of_2 (r : Int) (c : len r = 2) : enc r = [192 + r / 64, 128 + r % 64] := by unfold enc; rw [if_neg (by omega), if_pos c]
theorem enc_of_3 (r : Int) (c : len r = 3) : enc r = [224 + r / 64 / 64, 128 + r / 64 % 64, 128 + r % 64] := by unfold enc; rw [if_neg (by omega), if_neg (by omega), if_pos c]
theorem enc_of_4 (r : Int) (c : len r = 4) : enc r = [240 + r / 64 / 64 / 64, 128 + r / 64 / 64 % 64, 128 + r / 64 % 64, 128 + r % 64] := by unfold enc; rw [if_neg (by omega), if_neg (by omega), if_neg (by omega), if_pos c]

theorem it_good (f : Nat → Int) (n a : Nat) (hf : ∀ i, 0 ≤ f i ∧ f i ≤ 255) (h : (it f n a).2.2 = true) :
    len (it f n a).1 ≠ 0 ∧ enc (it f n a).1 = seg f a ((it f n a).2.1 - a) := by
  have h4 := sz_le (f a)
  have hr := sz_range (f a)
  have hl := lo_range (f a)
  have hh := hi_range (f a)
  have f0 := hf a
  have f1 := hf (a + 1)
  have f2 := hf (a + 2)
  have f3 := hf (a + 3)
  rcases (show sz (f a) = 0 ∨ sz (f a) = 1 ∨ sz (f a) = 2 ∨ sz (f a) = 3 ∨ sz (f a) = 4 from by omega) with s | s | s | s | s
  · have e : it f n a = (65533, a + 1, false) := by unfold it; rw [if_pos s]
    rw [e] at h; simp at h
  · rw [it_1 f n a s]
    have b := hb_1 (f a) s
    have l := len_1 (f a) (by omega) (by omega)
    simp only [b]
    exact ⟨by omega, by rw [enc_of_1 _ l, show a + 1 - a = 1 from by omega, seg_1]⟩
  · by_cases c1 : a + 1 < n ∧ lo (f a) ≤ f (a + 1) ∧ f (a + 1) ≤ hi (f a)
    · rw [it_2 f n a s c1, hb_2 (f a) s]
      have l := len_2 (f a % 32 * 64 + f (a + 1) % 64) (by omega) (by omega)
      refine ⟨by simp only []; omega, ?_⟩
      simp only []
      rw [enc_of_2 _ l, show a + 2 - a = 2 from by omega, seg_2]
      rw [show 192 + (f a % 32 * 64 + f (a + 1) % 64) / 64 = f a from by omega, show 128 + (f a % 32 * 64 + f (a + 1) % 64) % 64 = f (a + 1) from by omega]
    · have e : it f n a = (65533, a + 1, false) := by unfold it; rw [if_neg (by omega), s, run_stop _ _ _ _ _ _ _ (by decide) c1]
      rw [e] at h; simp at h
  · by_cases c1 : a + 1 < n ∧ lo (f a) ≤ f (a + 1) ∧ f (a + 1) ≤ hi (f a)
    · by_cases c2 : a + 2 < n ∧ 128 ≤ f (a + 2) ∧ f (a + 2) ≤ 191
      · rw [it_3 f n a s c1 c2, hb_3 (f a) s]
        have l := len_3 ((f a % 16 * 64 + f (a + 1) % 64) * 64 + f (a + 2) % 64) (by omega) (by omega) (by omega)
        refine ⟨by simp only []; omega, ?_⟩
        simp only []
        rw [enc_of_3 _ l, show a + 3 - a = 3 from by omega, seg_3]
        rw [show 224 + ((f a % 16 * 64 + f (a + 1) % 64) * 64 + f (a + 2) % 64) / 64 / 64 = f a from by omega, show 128 + ((f a % 16 * 64 + f (a + 1) % 64) * 64 + f (a + 2) % 64) / 64 % 64 = f (a + 1) from by omega, show 128 + ((f a % 16 * 64 + f (a + 1) % 64) * 64 + f (a + 2) % 64) % 64 = f (a + 2) from by omega]
      · have e : it f n a = (65533, a + 2, false) := by unfold it; rw [if_neg (by omega), s, run_go _ _ _ _ _ _ _ (by decide) c1, run_stop _ _ _ _ _ _ _ (by decide) c2]
        rw [e] at h; simp at h
    · have e : it f n a = (65533, a + 1, false) := by unfold it; rw [if_neg (by omega), s, run_stop _ _ _ _ _ _ _ (by decide) c1]
      rw [e] at h; simp at h
  · by_cases c1 : a + 1 < n ∧ lo (f a) ≤ f (a + 1) ∧ f (a + 1) ≤ hi (f a)
    · by_cases c2 : a + 2 < n ∧ 128 ≤ f (a + 2) ∧ f (a + 2) ≤ 191
      · by_cases c3 : a + 3 < n ∧ 128 ≤ f (a + 3) ∧ f (a + 3) ≤ 191
        · rw [it_4 f n a s c1 c2 c3, hb_4 (f a) s]
          have l := len_4 (((f a % 8 * 64 + f (a + 1) % 64) * 64 + f (a + 2) % 64) * 64 + f (a + 3) % 64) (by omega) (by omega)
          refine ⟨by simp only []; omega, ?_⟩
          simp only []
          rw [enc_of_4 _ l, show a + 4 - a = 4 from by omega, seg_4]
          rw [show 240 + (((f a % 8 * 64 + f (a + 1) % 64) * 64 + f (a + 2) % 64) * 64 + f (a + 3) % 64) / 64 / 64 / 64 = f a from by omega, show 128 + (((f a % 8 * 64 + f (a + 1) % 64) * 64 + f (a + 2) % 64) * 64 + f (a + 3) % 64) / 64 / 64 % 64 = f (a + 1) from by omega, show 128 + (((f a % 8 * 64 + f (a + 1) % 64) * 64 + f (a + 2) % 64) * 64 + f (a + 3) % 64) / 64 % 64 = f (a + 2) from by omega, show 128 + (((f a % 8 * 64 + f (a + 1) % 64) * 64 + f (a + 2) % 64) * 64 + f (a + 3) % 64) % 64 = f (a + 3) from by omega]
        · have e : it f n a = (65533, a + 3, false) := by unfold it; rw [if_neg (by omega), s, run_go _ _ _ _ _ _ _ (by decide) c1, run_go _ _ _ _ _ _ _ (by decide) c2, run_stop _ _ _ _ _ _ _ (by decide) c3]
          rw [e] at h; simp at h
      · have e : it f n a = (65533, a + 2, false) := by unfold it; rw [if_neg (by omega), s, run_go _ _ _ _ _ _ _ (by decide) c1, run_stop _ _ _ _ _ _ _ (by decide) c2]
        rw [e] at h; simp at h
    · have e : it f n a = (65533, a + 1, false) := by unfold it; rw [if_neg (by omega), s, run_stop _ _ _ _ _ _ _ (by decide) c1]
      rw [e] at h; simp at h

theorem run_bad (f : Nat → Int) (n : Nat) : ∀ k r e l h, (run f n k r e l h).2.2 = false → (run f n k r e l h).1 = 65533 := by
  intro k
  induction k with
  | zero => intro r e l h; simp [run]
  | succ k ih =>
    intro r e l h
    unfold run
    split
    · exact ih _ _ _ _
    · simp
theorem it_bad (f : Nat → Int) (n a : Nat) (h : (it f n a).2.2 = false) : (it f n a).1 = 65533 := by
  unfold it at h ⊢
  split
  · rfl
  · rename_i hs
    rw [if_neg hs] at h
    exact run_bad _ _ _ _ _ _ _ h
theorem enc_fffd : enc 65533 = [239, 191, 189] := by decide
theorem it_len (f : Nat → Int) (n a : Nat) (hf : ∀ i, 0 ≤ f i ∧ f i ≤ 255) : len (it f n a).1 ≠ 0 := by
  cases h : (it f n a).2.2 with
  | true => exact (it_good f n a hf h).1
  | false => rw [it_bad f n a h]; decide
/-- Where the replacement's own bytes stand, the item is well-formed. -/
theorem it_fffd (f : Nat → Int) (n a : Nat) (h0 : f a = 239) (h1 : f (a + 1) = 191) (h2 : f (a + 2) = 189) (hn : a + 2 < n) : (it f n a).2.2 = true := by
  have s : sz (f a) = 3 := by rw [h0]; decide
  rw [it_3 f n a s ⟨by omega, by rw [h0, h1]; decide, by rw [h0, h1]; decide⟩ ⟨by omega, by omega, by omega⟩]

/-- The bytes of items, written anew. -/
def encs (l : List (Int × Nat × Nat)) : List Int := l.flatMap fun x => enc x.1
end Go.Proofs.YtlgkfnecahgedaaGreatDoor.utf
end

section
/- Plain mathematics: the items of two texts, one behind the other, are those of both, if the first one is well-formed. -/
set_option linter.unusedVariables false
set_option linter.unusedSimpArgs false
namespace Go.Proofs.YtlgkfnecahgedaaGreatDoor.utf

theorem run_ext (f g : Nat → Int) (n N : Nat) (hN : n ≤ N) (h : ∀ i, i < n → g i = f i) : ∀ k r e l u, (run f n k r e l u).2.2 = true → run g N k r e l u = run f n k r e l u := by
  intro k
  induction k with
  | zero => intro r e l u _; simp [run]
  | succ k ih =>
    intro r e l u hk
    by_cases c : e < n ∧ l ≤ f e ∧ f e ≤ u
    · have hg := h e c.1
      rw [run_go f n (k + 1) r e l u (by omega) c] at hk ⊢
      rw [run_go g N (k + 1) r e l u (by omega) (by rw [hg]; omega), hg]
      exact ih _ _ _ _ hk
    · rw [run_stop f n (k + 1) r e l u (by omega) c] at hk
      simp at hk
theorem it_ext (f g : Nat → Int) (n N a : Nat) (hN : n ≤ N) (ha : a < n) (h : ∀ i, i < n → g i = f i) (hk : (it f n a).2.2 = true) : it g N a = it f n a := by
  unfold it at hk ⊢
  rw [h a ha]
  split
  · rfl
  · rename_i hs
    rw [if_neg hs] at hk
    exact run_ext f g n N hN h _ _ _ _ _ hk

/-- Items, so many bytes further on. -/
def shift (d : Nat) (l : List (Int × Nat × Nat)) : List (Int × Nat × Nat) := l.map fun x => (x.1, d + x.2.1, d + x.2.2)
/-- The bytes of two texts, one behind the other. -/
def both (fa fb : Nat → Int) (na : Nat) : Nat → Int := fun i => if i < na then fa i else fb (i - na)
end Go.Proofs.YtlgkfnecahgedaaGreatDoor.utf
end
