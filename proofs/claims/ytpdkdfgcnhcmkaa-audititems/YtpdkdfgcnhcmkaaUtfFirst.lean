/- What the document's own 'first' answers: the item at the beginning of a row of bytes; nothing that was there changes. -/
import Derived.Test.YtpdkdfgcnhcmkaaUtfItem
import Derived.Test.YtpdkdfgcnhcmkaaUtfPure2
set_option linter.unusedVariables false
set_option linter.unusedSimpArgs false
namespace Go.Proofs.Ytpdkdfgcnhcmkaa.utf
open Go.RowKit

theorem first_zero (b off n cap : Nat) (f : Nat → Int) (w : World) (hc : ∀ i, i < n → w.cell? ⟨b, off + i, none⟩ = some (.int .u8 (f i)))
    (ha : 0 < n) (hn : n ≤ 9223372036854775807) (hf : ∀ i, 0 ≤ f i ∧ f i ≤ 255) (hz : sz (f 0) = 0) :
    Calls Try.prog 23 #[.slice (some ⟨b, off, none⟩) n cap] w fun e w' =>
      e = .returned (.tuple #[.agg #[.int .i64 65533, .int .i64 0, .int .i64 1], .bool false]) ∧ Below w.heap.size w w' := by
  have hca := fun o => cells_alloc hc o 0 ha
  simp only [Nat.add_zero] at hca
  obtain ⟨hc0, hc1⟩ := hf 0
  clear hc hf
  generalize f 0 = c at *
  go_enter Try.func23, Try.ntmps23
  go_wp2_with (go_at_call 26; refine (rsize_any _ _ hc0 hc1).mono ?_; rintro e w' ⟨rfl, rfl⟩)
  refine bodyPost_ret (v := .tuple #[.agg #[.int .i64 65533, .int .i64 0, .int .i64 1], .bool false]) (by simp [results, Try.results23, go_sem]) rfl ⟨rfl, ?_⟩
  exact (Below.refl _ _).alloc (Nat.le_refl _) _

theorem i64_and31 (x : Int) (h0 : 0 ≤ x) (h1 : x ≤ 255) : bits .and .i64 x 31 = x % 32 :=
  bits_mask .i64 63 (by decide) (fun n a b => by rw [IntKind.wrap_i64]; omega) 5 (by decide) x h0 (by omega)
theorem i64_and15 (x : Int) (h0 : 0 ≤ x) (h1 : x ≤ 255) : bits .and .i64 x 15 = x % 16 :=
  bits_mask .i64 63 (by decide) (fun n a b => by rw [IntKind.wrap_i64]; omega) 4 (by decide) x h0 (by omega)
theorem i64_and7 (x : Int) (h0 : 0 ≤ x) (h1 : x ≤ 255) : bits .and .i64 x 7 = x % 8 :=
  bits_mask .i64 63 (by decide) (fun n a b => by rw [IntKind.wrap_i64]; omega) 3 (by decide) x h0 (by omega)

set_option maxHeartbeats 1000000 in
theorem first_more (b off n cap S : Nat) (f : Nat → Int) (w : World) (hc : ∀ i, i < n → w.cell? ⟨b, off + i, none⟩ = some (.int .u8 (f i)))
    (ha : 0 < n) (hn : n ≤ 9223372036854775807) (hcap : n ≤ cap) (hf : ∀ i, 0 ≤ f i ∧ f i ≤ 255) (hS : sz (f 0) = S) (hS1 : 1 ≤ S) :
    Calls Try.prog 23 #[.slice (some ⟨b, off, none⟩) n cap] w fun e w' =>
      e = .returned (.tuple #[.agg #[.int .i64 (it f n 0).1, .int .i64 0, .int .i64 (it f n 0).2.1], .bool (it f n 0).2.2]) ∧ Below w.heap.size w w' := by
  have HC : Hid (∀ i, i < n → w.cell? ⟨b, off + i, none⟩ = some (.int .u8 (f i))) := hc
  have HF : Hid (∀ i, 0 ≤ f i ∧ f i ≤ 255) := hf
  have hca := fun o => cells_alloc hc o 0 ha
  simp only [Nat.add_zero] at hca
  obtain ⟨hc0, hc1⟩ := hf 0
  have hS4 : S ≤ 4 := by rw [← hS]; exact sz_le _
  have HZ : Hid (sz (f 0) = S) := hS
  have HSZ := rsize_any (f 0) (w.alloc (.cells #[.int .i64 0, .int .i64 0, .int .i64 0] 32)) hc0 hc1
  rw [hS] at HSZ
  have HL : Hid (left f n S 0 = it f n 0) := by rw [← hS]; exact left_start f n (by omega)
  have hS0 : ((S : Int) == 0) = false := by simp; omega
  clear hc hf hS
  go_enter Try.func23, Try.ntmps23
  go_wp2_with (go_at_call 26; refine HSZ.mono ?_; rintro e w' ⟨rfl, rfl⟩)
  go_loopw [5] (fun m wr => ∃ j : Nat, wr = w.alloc (.cells #[.int .i64 0, .int .i64 0, .int .i64 0] 32) ∧ m = .int .i64 (j + 1 : Nat) ∧ j + 1 ≤ S ∧ j + 1 ≤ n ∧ Hid (left f n S j = it f n 0)) (fun m _ => 5 - (intOf m).toNat)
  case atStart => exact ⟨0, rfl, rfl, by omega, by omega, HL⟩
  case round =>
    obtain ⟨j, rfl, rfl, hjS, hjn, HJ⟩ := hrel
    by_cases hA : j + 1 = S
    · -- all bytes are there
      have HI : Hid (it f n 0 = (ac f j, S, true)) := HJ.out.symm.trans (left_end f n S j hA)
      clear HJ
      have hS2 : S ≤ n := by omega
      subst hA
      rcases (show j = 0 ∨ j = 1 ∨ j = 2 ∨ j = 3 from by omega) with rfl | rfl | rfl | rfl
      · have hb1 : ac f 0 = f 0 := hb_1 (f 0) HZ.out
        rw [hb1] at HI
        clear HSZ HL HZ hb1
        go_wp2
        all_goals
          refine wp_loop_rounds 1 ?_
          rw [rounds_succ]
          go_wp2
          refine bodyPost_ret (v := .tuple #[.agg #[.int .i64 (f 0), .int .i64 0, .int .i64 1], .bool true]) (by simp [results, Try.results23, go_sem]) rfl ⟨by rw [HI.out]; rfl, ?_⟩
          exact (Below.refl _ _).alloc (Nat.le_refl _) _
      · have e1 := i64_and31 (f 0) hc0 hc1
        have HB1 : Hid (f 0 % 32 = ac f 0) := (hb_2 (f 0) HZ.out).symm
        clear HSZ HL HZ
        go_wp2
        go_loop [9, 72] (fun r i => ∃ k : Nat, k ≤ 1 ∧ i = .int .i64 k ∧ r = .int .i64 (ac f k)) (fun _ i => 1 - (intOf i).toNat)
        case atStart => exact ⟨0, by omega, rfl, by rw [HB1.out]⟩
        case round =>
          obtain ⟨k, hk, rfl, rfl⟩ := hrel
          obtain ⟨ha0, ha1⟩ := ac_le f hc0 k (by omega)
          by_cases hkj : k < 1
          · have hce : ∀ o, (w.alloc o).cell? ⟨b, off + 1 + k, none⟩ = some (.int .u8 (f (k + 1))) := fun o => by
              have := cells_alloc HC.out o (k + 1) (by omega)
              rw [show off + 1 + k = off + (k + 1) from by omega]; exact this
            obtain ⟨hd0, hd1⟩ := HF.out (k + 1)
            have e63 := u8_and63 (f (k + 1)) hd0 (by omega)
            go_wp2
            go_round
            case rel => exact ⟨k + 1, by omega, by go_num, rfl⟩
            case measure => simp [intOf]; omega
          · obtain rfl : k = 1 := by omega
            go_wp2
            refine bodyPost_ret (v := .tuple #[.agg #[.int .i64 (ac f 1), .int .i64 0, .int .i64 2], .bool true]) (by simp [results, Try.results23, go_sem]) rfl ⟨by rw [HI.out]; rfl, ?_⟩
            exact (Below.refl _ _).alloc (Nat.le_refl _) _
      · have e1 := i64_and15 (f 0) hc0 hc1
        have HB1 : Hid (f 0 % 16 = ac f 0) := (hb_3 (f 0) HZ.out).symm
        clear HSZ HL HZ
        go_wp2
        go_loop [9, 72] (fun r i => ∃ k : Nat, k ≤ 2 ∧ i = .int .i64 k ∧ r = .int .i64 (ac f k)) (fun _ i => 2 - (intOf i).toNat)
        case atStart => exact ⟨0, by omega, rfl, by rw [HB1.out]⟩
        case round =>
          obtain ⟨k, hk, rfl, rfl⟩ := hrel
          obtain ⟨ha0, ha1⟩ := ac_le f hc0 k (by omega)
          by_cases hkj : k < 2
          · have hce : ∀ o, (w.alloc o).cell? ⟨b, off + 1 + k, none⟩ = some (.int .u8 (f (k + 1))) := fun o => by
              have := cells_alloc HC.out o (k + 1) (by omega)
              rw [show off + 1 + k = off + (k + 1) from by omega]; exact this
            obtain ⟨hd0, hd1⟩ := HF.out (k + 1)
            have e63 := u8_and63 (f (k + 1)) hd0 (by omega)
            go_wp2
            go_round
            case rel => exact ⟨k + 1, by omega, by go_num, rfl⟩
            case measure => simp [intOf]; omega
          · obtain rfl : k = 2 := by omega
            go_wp2
            refine bodyPost_ret (v := .tuple #[.agg #[.int .i64 (ac f 2), .int .i64 0, .int .i64 3], .bool true]) (by simp [results, Try.results23, go_sem]) rfl ⟨by rw [HI.out]; rfl, ?_⟩
            exact (Below.refl _ _).alloc (Nat.le_refl _) _
      · have e1 := i64_and7 (f 0) hc0 hc1
        have HB1 : Hid (f 0 % 8 = ac f 0) := (hb_4 (f 0) HZ.out).symm
        clear HSZ HL HZ
        go_wp2
        go_loop [9, 72] (fun r i => ∃ k : Nat, k ≤ 3 ∧ i = .int .i64 k ∧ r = .int .i64 (ac f k)) (fun _ i => 3 - (intOf i).toNat)
        case atStart => exact ⟨0, by omega, rfl, by rw [HB1.out]⟩
        case round =>
          obtain ⟨k, hk, rfl, rfl⟩ := hrel
          obtain ⟨ha0, ha1⟩ := ac_le f hc0 k (by omega)
          by_cases hkj : k < 3
          · have hce : ∀ o, (w.alloc o).cell? ⟨b, off + 1 + k, none⟩ = some (.int .u8 (f (k + 1))) := fun o => by
              have := cells_alloc HC.out o (k + 1) (by omega)
              rw [show off + 1 + k = off + (k + 1) from by omega]; exact this
            obtain ⟨hd0, hd1⟩ := HF.out (k + 1)
            have e63 := u8_and63 (f (k + 1)) hd0 (by omega)
            go_wp2
            go_round
            case rel => exact ⟨k + 1, by omega, by go_num, rfl⟩
            case measure => simp [intOf]; omega
          · obtain rfl : k = 3 := by omega
            go_wp2
            refine bodyPost_ret (v := .tuple #[.agg #[.int .i64 (ac f 3), .int .i64 0, .int .i64 4], .bool true]) (by simp [results, Try.results23, go_sem]) rfl ⟨by rw [HI.out]; rfl, ?_⟩
            exact (Below.refl _ _).alloc (Nat.le_refl _) _
    · have hjS2 : j + 1 < S := by omega
      clear hA
      by_cases hB : j + 1 < n
      · have hB' : ((j + 1 : Nat) : Int) < n := by omega
        have hce := fun o => cells_alloc HC.out o (j + 1) hB
        obtain ⟨hd0, hd1⟩ := HF.out (j + 1)
        have BND := rbounds_any (f 0) (j + 1) (w.alloc (.cells #[.int .i64 0, .int .i64 0, .int .i64 0] 32)) hc0 hc1 (by omega) (by rw [HZ.out]; omega)
        have hl := lob_le (f 0) (j + 1)
        have hh := hib_le (f 0) (j + 1)
        by_cases h1 : f (j + 1) < lob (f 0) (j + 1)
        · have HI : Hid (it f n 0 = (65533, j + 1, false)) := HJ.out.symm.trans (left_stop f n S j hjS2 (by omega))
          clear HJ
          go_wp2_with (go_at_call 27; refine BND.mono ?_; rintro e w' ⟨rfl, rfl⟩)
          refine bodyPost_ret (v := .tuple #[.agg #[.int .i64 65533, .int .i64 0, .int .i64 (j + 1 : Nat)], .bool false]) (by simp [results, Try.results23, go_sem]) rfl ⟨by rw [HI.out], ?_⟩
          exact (Below.refl _ _).alloc (Nat.le_refl _) _
        · have h1' : lob (f 0) (j + 1) ≤ f (j + 1) := by omega
          clear h1
          by_cases h2 : hib (f 0) (j + 1) < f (j + 1)
          · have HI : Hid (it f n 0 = (65533, j + 1, false)) := HJ.out.symm.trans (left_stop f n S j hjS2 (by omega))
            clear HJ
            go_wp2_with (go_at_call 27; refine BND.mono ?_; rintro e w' ⟨rfl, rfl⟩)
            refine bodyPost_ret (v := .tuple #[.agg #[.int .i64 65533, .int .i64 0, .int .i64 (j + 1 : Nat)], .bool false]) (by simp [results, Try.results23, go_sem]) rfl ⟨by rw [HI.out], ?_⟩
            exact (Below.refl _ _).alloc (Nat.le_refl _) _
          · have h2' : f (j + 1) ≤ hib (f 0) (j + 1) := by omega
            have HI : Hid (left f n S (j + 1) = it f n 0) := (left_go f n S j hjS2 (by omega)).trans HJ.out
            clear HJ h2
            go_wp2_with (go_at_call 27; refine BND.mono ?_; rintro e w' ⟨rfl, rfl⟩)
            go_roundw
            case rel => exact ⟨j + 1, by trivial, by go_num, by omega, by omega, HI⟩
            case measure => simp [intOf]; omega
      · have HI : Hid (it f n 0 = (65533, j + 1, false)) := HJ.out.symm.trans (left_stop f n S j hjS2 (by omega))
        clear HJ
        go_wp2
        refine bodyPost_ret (v := .tuple #[.agg #[.int .i64 65533, .int .i64 0, .int .i64 (j + 1 : Nat)], .bool false]) (by simp [results, Try.results23, go_sem]) rfl ⟨by rw [HI.out], ?_⟩
        exact (Below.refl _ _).alloc (Nat.le_refl _) _

/-- The item at the beginning of a row of bytes, by the document's own way. -/
theorem first_any (b off n cap : Nat) (f : Nat → Int) (w : World) (hc : ∀ i, i < n → w.cell? ⟨b, off + i, none⟩ = some (.int .u8 (f i)))
    (ha : 0 < n) (hn : n ≤ 9223372036854775807) (hcap : n ≤ cap) (hf : ∀ i, 0 ≤ f i ∧ f i ≤ 255) :
    Calls Try.prog 23 #[.slice (some ⟨b, off, none⟩) n cap] w fun e w' =>
      e = .returned (.tuple #[.agg #[.int .i64 (it f n 0).1, .int .i64 0, .int .i64 (it f n 0).2.1], .bool (it f n 0).2.2]) ∧ Below w.heap.size w w' := by
  by_cases hz : sz (f 0) = 0
  · have e : it f n 0 = (65533, 0 + 1, false) := by unfold it; rw [if_pos hz]
    rw [e]
    exact first_zero b off n cap f w hc ha hn hf hz
  · exact first_more b off n cap (sz (f 0)) f w hc ha hn hcap hf rfl (by omega)
end Go.Proofs.Ytpdkdfgcnhcmkaa.utf
