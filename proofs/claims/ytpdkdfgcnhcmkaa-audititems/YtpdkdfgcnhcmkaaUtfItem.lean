/- What utf.itemAt answers: the item at a place of a row of bytes; nothing that was there changes. -/
import Derived.Test.YtpdkdfgcnhcmkaaUtfSmall
import Derived.Outline
set_option linter.unusedVariables false
set_option linter.unusedSimpArgs false
namespace Go.Proofs.Ytpdkdfgcnhcmkaa.utf
open Go.RowKit

theorem cells_alloc {w : World} {b off n : Nat} {g : Nat → Value} (hc : ∀ i, i < n → w.cell? ⟨b, off + i, none⟩ = some (g i)) (o : Obj) : ∀ i, i < n → (w.alloc o).cell? ⟨b, off + i, none⟩ = some (g i) :=
  fun i hi => (World.cell?_alloc_past o b (off + i) (World.block_lt_of_cell? w _ (hc i hi))).trans (hc i hi)

theorem item_zero (b off n cap : Nat) (f : Nat → Int) (a : Nat) (w : World) (hc : ∀ i, i < n → w.cell? ⟨b, off + i, none⟩ = some (.int .u8 (f i)))
    (ha : a < n) (hn : n ≤ 9223372036854775807) (hf : ∀ i, 0 ≤ f i ∧ f i ≤ 255) (hz : sz (f a) = 0) :
    Calls Try.prog 28 #[.slice (some ⟨b, off, none⟩) n cap, .int .i64 a] w fun e w' =>
      e = .returned (.tuple #[.agg #[.int .i64 65533, .int .i64 a, .int .i64 (a + 1 : Nat)], .bool false]) ∧ Below w.heap.size w w' := by
  have hca := fun o => cells_alloc hc o a ha
  have hfa := hf a
  clear hc hf
  generalize f a = c at *
  obtain ⟨hc0, hc1⟩ := hfa
  go_enter Try.func28, Try.ntmps28
  go_wp2_with (go_at_call 30; refine (head_any _ _ hc0 hc1).mono ?_; rintro e w' ⟨rfl, rfl⟩)
  refine bodyPost_ret (v := .tuple #[.agg #[.int .i64 65533, .int .i64 a, .int .i64 (a + 1 : Nat)], .bool false]) (by simp [results, Try.results28, go_sem]) rfl ⟨rfl, ?_⟩
  exact (Below.refl _ _).alloc (Nat.le_refl _) _

theorem or_tail (r c : Int) (h0 : 0 ≤ r) (h1 : r ≤ 8388607) (hc : 0 ≤ c) : bits BinOp.or IntKind.i64 (r * 64) (c % 64) = r * 64 + c % 64 :=
  bits_join .i64 63 (by decide) (fun n a b => by rw [IntKind.wrap_i64]; omega) 6 _ _ (by omega) (by omega) (by omega) (by omega) (by omega) (by omega)

set_option maxHeartbeats 400000 in
theorem item_more (b off n cap : Nat) (f : Nat → Int) (a : Nat) (w : World) (hc : ∀ i, i < n → w.cell? ⟨b, off + i, none⟩ = some (.int .u8 (f i)))
    (ha : a < n) (hn : n ≤ 9223372036854775807) (hf : ∀ i, 0 ≤ f i ∧ f i ≤ 255) (hz : 1 ≤ sz (f a)) :
    Calls Try.prog 28 #[.slice (some ⟨b, off, none⟩) n cap, .int .i64 a] w fun e w' =>
      e = .returned (.tuple #[.agg #[.int .i64 (it f n a).1, .int .i64 a, .int .i64 (it f n a).2.1], .bool (it f n a).2.2]) ∧ Below w.heap.size w w' := by
  have HC : Hid (∀ i, i < n → w.cell? ⟨b, off + i, none⟩ = some (.int .u8 (f i))) := hc
  have HF : Hid (∀ i, 0 ≤ f i ∧ f i ≤ 255) := hf
  have hca := fun o => cells_alloc hc o a ha
  have hfa := hf a
  have hs4 := sz_le (f a)
  have hbl := hb_le (f a) hfa.1
  have hbs := hb_small (f a) hfa.1
  have HIT : Hid (it f n a = run f n (sz (f a) - 1) (hb (f a)) (a + 1) (lo (f a)) (hi (f a))) := by unfold it; rw [if_neg (by omega)]; rfl
  clear hc hf
  obtain ⟨hc0, hc1⟩ := hfa
  go_enter Try.func28, Try.ntmps28
  go_wp2_with (first | (go_at_call 30; refine (head_any _ _ hc0 hc1).mono ?_; rintro e w' ⟨rfl, rfl⟩) | (go_at_call 31; refine (second_any _ _ hc0 hc1).mono ?_; rintro e w' ⟨rfl, rfl⟩))
  go_loop [7, 8, 9, 10] (fun r e l h => ∃ (k : Nat) (ρ : Int) (ε : Nat) (l0 h0 : Int), r = .int .i64 ρ ∧ e = .int .i64 ε ∧ l = .int .u8 l0 ∧ h = .int .u8 h0 ∧ ε + k = a + sz (f a) ∧ ε ≤ n ∧ a + 1 ≤ ε ∧ 0 ≤ ρ ∧ ρ ≤ 8388607 ∧
      Hid ((k = 1 → ρ ≤ 131071) ∧ (k = 2 → ρ ≤ 2047) ∧ (k = 3 → ρ ≤ 31)) ∧ Hid (run f n k ρ ε l0 h0 = it f n a)) (fun _ e _ _ => a + 4 - (intOf e).toNat)
  case atStart => exact ⟨sz (f a) - 1, hb (f a), a + 1, lo (f a), hi (f a), rfl, by go_num, rfl, rfl, by omega, by omega, by omega, hbl.1, by omega, (by unfold Hid; omega), HIT.out.symm⟩
  case round =>
    obtain ⟨k, ρ, ε, l0, h0, rfl, rfl, rfl, rfl, hεk, hεn, haε, hρ0, hρ1, HB, HR⟩ := hrel
    clear hbl hbs hca
    by_cases hk : k = 0
    · subst hk
      have HI : Hid (it f n a = (ρ, ε, true)) := HR.out.symm
      have hstop2 : ¬ (ε : Int) - a < sz (f a) := by omega
      clear HB HR
      go_wp2
      refine bodyPost_ret (v := .tuple #[.agg #[.int .i64 ρ, .int .i64 a, .int .i64 ε], .bool true]) (by simp [results, Try.results28, go_sem]) rfl ⟨by rw [HI.out], ?_⟩
      exact (Below.refl _ _).alloc (Nat.le_refl _) _
    · have hgo : (ε : Int) - a < sz (f a) := by omega
      by_cases he : ε = n
      · have HI : Hid (it f n a = (65533, ε, false)) := HR.out.symm.trans (run_stop f n k ρ ε l0 h0 hk (by omega))
        have heq : ((ε : Int) == (n : Int)) = true := by simp; omega
        clear HB HR hk he
        go_wp2
        refine bodyPost_ret (v := .tuple #[.agg #[.int .i64 65533, .int .i64 a, .int .i64 ε], .bool false]) (by simp [results, Try.results28, go_sem]) rfl ⟨by rw [HI.out], ?_⟩
        exact (Below.refl _ _).alloc (Nat.le_refl _) _
      · have hlt : ε < n := by omega
        have hce := fun o => cells_alloc HC.out o ε hlt
        obtain ⟨hd0, hd1⟩ := HF.out ε
        have heq : ((ε : Int) == (n : Int)) = false := by simp; omega
        clear he
        by_cases h1 : f ε < l0
        · have HI : Hid (it f n a = (65533, ε, false)) := HR.out.symm.trans (run_stop f n k ρ ε l0 h0 hk (by omega))
          clear HB HR hk
          go_wp2
          refine bodyPost_ret (v := .tuple #[.agg #[.int .i64 65533, .int .i64 a, .int .i64 ε], .bool false]) (by simp [results, Try.results28, go_sem]) rfl ⟨by rw [HI.out], ?_⟩
          exact (Below.refl _ _).alloc (Nat.le_refl _) _
        · have h1' : l0 ≤ f ε := by omega
          clear h1
          by_cases h2 : h0 < f ε
          · have HI : Hid (it f n a = (65533, ε, false)) := HR.out.symm.trans (run_stop f n k ρ ε l0 h0 hk (by omega))
            clear HB HR hk
            go_wp2
            refine bodyPost_ret (v := .tuple #[.agg #[.int .i64 65533, .int .i64 a, .int .i64 ε], .bool false]) (by simp [results, Try.results28, go_sem]) rfl ⟨by rw [HI.out], ?_⟩
            exact (Below.refl _ _).alloc (Nat.le_refl _) _
          · have h2' : f ε ≤ h0 := by omega
            have HI : Hid (run f n (k - 1) (ρ * 64 + f ε % 64) (ε + 1) 128 191 = it f n a) := (run_go f n k ρ ε l0 h0 hk (by omega)).symm.trans HR.out
            have hρ2 : ρ ≤ 131071 := by have := HB.out; omega
            have HB2 : Hid ((k - 1 = 1 → ρ * 64 + f ε % 64 ≤ 131071) ∧ (k - 1 = 2 → ρ * 64 + f ε % 64 ≤ 2047) ∧ (k - 1 = 3 → ρ * 64 + f ε % 64 ≤ 31)) := by have := HB.out; unfold Hid; omega
            have e63 := u8_and63 (f ε) hd0 (by omega)
            have eor := or_tail ρ (f ε) hρ0 hρ1 hd0
            clear HB HR h2
            go_wp2
            go_round
            case rel => exact ⟨k - 1, ρ * 64 + f ε % 64, ε + 1, 128, 191, rfl, by go_num, rfl, rfl, by omega, by omega, by omega, by omega, by omega, HB2, HI⟩
            case measure => simp [intOf]; omega

/-- The item at a place of a row of bytes. -/
theorem item_any (b off n cap : Nat) (f : Nat → Int) (a : Nat) (w : World) (hc : ∀ i, i < n → w.cell? ⟨b, off + i, none⟩ = some (.int .u8 (f i)))
    (ha : a < n) (hn : n ≤ 9223372036854775807) (hf : ∀ i, 0 ≤ f i ∧ f i ≤ 255) :
    Calls Try.prog 28 #[.slice (some ⟨b, off, none⟩) n cap, .int .i64 a] w fun e w' =>
      e = .returned (.tuple #[.agg #[.int .i64 (it f n a).1, .int .i64 a, .int .i64 (it f n a).2.1], .bool (it f n a).2.2]) ∧ Below w.heap.size w w' := by
  by_cases hz : sz (f a) = 0
  · have e : it f n a = (65533, a + 1, false) := by unfold it; rw [if_pos hz]
    rw [e]
    exact item_zero b off n cap f a w hc ha hn hf hz
  · exact item_more b off n cap f a w hc ha hn hf (by omega)
end Go.Proofs.Ytpdkdfgcnhcmkaa.utf
