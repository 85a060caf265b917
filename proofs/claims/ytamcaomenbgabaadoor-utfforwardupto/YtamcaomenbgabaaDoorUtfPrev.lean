/- What utf.lastEdge, utf.Prev and utf.Next answer. -/
import Derived.Test.YtamcaomenbgabaaDoorUtfPure4
import Derived.Test.YtamcaomenbgabaaDoorUtfDec
import Derived.Deep.LoopGhost
set_option linter.unusedVariables false
set_option linter.unusedSimpArgs false
namespace Go.Proofs.YtamcaomenbgabaaDoor.utf
open Go.RowKit

theorem isTail_yes (c : Int) (w : World) (h : Tail c) : Calls Tryd.prog 21 #[.int .u8 c] w fun e w' => e = .returned (.bool true) ∧ w' = w := by
  have := isTail_any c w
  rwa [decide_eq_true (show 128 ≤ c ∧ c ≤ 191 from h)] at this
theorem isTail_no (c : Int) (w : World) (h : ¬ Tail c) : Calls Tryd.prog 21 #[.int .u8 c] w fun e w' => e = .returned (.bool false) ∧ w' = w := by
  have := isTail_any c w
  rwa [decide_eq_false (show ¬ (128 ≤ c ∧ c ≤ 191) from h)] at this

theorem edge_any (b off n cap : Nat) (f : Nat → Int) (w : World) (hc : ∀ i, i < n → w.cell? ⟨b, off + i, none⟩ = some (.int .u8 (f i)))
    (h0 : 0 < n) (hn : n ≤ 9223372036854775807) :
    Calls Tryd.prog 14 #[.slice (some ⟨b, off, none⟩) n cap] w fun e w' => ∃ m : Nat, e = .returned (.int .i64 m) ∧ Edge f n m ∧ w' = w := by
  have HC : Hid (∀ i, i < n → w.cell? ⟨b, off + i, none⟩ = some (.int .u8 (f i))) := hc
  clear hc
  have e0 : ((n - 1 : Nat) : Int) = (n : Int) - 1 := by omega
  go_enter Tryd.func14, Tryd.ntmps14
  go_wp2
  go_loopw [3] (fun i wr => ∃ t : Nat, i = .int .i64 t ∧ t < n ∧ n ≤ t + 4 ∧ Hid (∀ j, t < j → j < n → Tail (f j)) ∧ wr = w) (fun i _ => (intOf i).toNat)
  case atStart => exact ⟨n - 1, by rw [e0], by omega, by omega, fun j h1 h2 => by omega, rfl⟩
  case round =>
    obtain ⟨t, rfl, htn, ht4, HT, rfl⟩ := hrel
    clear e0
    by_cases ht : t = 0
    · subst ht
      go_wp2
      go_ret
      exact ⟨0, rfl, ⟨by omega, .inl rfl⟩, rfl⟩
    · have ht' : (0 : Int) < (t : Int) := by omega
      by_cases h4 : n = t + 4
      · subst h4
        have hq : ¬ ((t + 4 : Nat) : Int) - (t : Int) < 4 := by omega
        by_cases hT : Tail (f t)
        · go_wp2
          go_ret
          exact ⟨t, rfl, ⟨by omega, .inr (.inr ⟨rfl, fun j h1 h2 => by rcases Nat.eq_or_lt_of_le h1 with rfl | h3; exact hT; exact HT.out j h3 h2⟩)⟩, rfl⟩
        · go_wp2
          go_ret
          exact ⟨t, rfl, ⟨by omega, .inr (.inl hT)⟩, rfl⟩
      · have hq : (n : Int) - (t : Int) < 4 := by omega
        have hct := HC.out t htn
        by_cases hT : Tail (f t)
        · have IT := isTail_yes (f t) wr hT
          have HT2 : Hid (∀ j, t - 1 < j → j < n → Tail (f j)) := fun j h1 h2 => by
            rcases Nat.lt_or_ge t j with h3 | h3
            · exact HT.out j h3 h2
            · obtain rfl : j = t := by omega
              exact hT
          have e1 : ((t - 1 : Nat) : Int) = (t : Int) - 1 := by omega
          clear HT
          go_wp2_with (go_at_call 21; refine IT.mono ?_; rintro e w' ⟨rfl, rfl⟩)
          go_roundw
          case rel => exact ⟨t - 1, by rw [e1], by omega, by omega, HT2, by trivial⟩
          case measure => simp [intOf]; omega
        · have IT := isTail_no (f t) wr hT
          go_wp2_with (go_at_call 21; refine IT.mono ?_; rintro e w' ⟨rfl, rfl⟩)
          go_ret
          exact ⟨t, rfl, ⟨by omega, .inr (.inl hT)⟩, rfl⟩
end Go.Proofs.YtamcaomenbgabaaDoor.utf
