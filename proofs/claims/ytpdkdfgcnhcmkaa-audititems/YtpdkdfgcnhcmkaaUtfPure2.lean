/- Plain mathematics of the document's own way to an item: the bits gathered so far, and how going on behind the first byte keeps them. -/
import Derived.Test.YtpdkdfgcnhcmkaaUtfPure
set_option linter.unusedVariables false
set_option linter.unusedSimpArgs false
namespace Go.Proofs.Ytpdkdfgcnhcmkaa.utf

/-- The bits gathered behind j bytes more. -/
def ac (f : Nat → Int) : Nat → Int
  | 0 => hb (f 0)
  | j + 1 => ac f j * 64 + f (j + 1) % 64

theorem ac_le (f : Nat → Int) (h : 0 ≤ f 0) (j : Nat) (hj : j ≤ 3) : 0 ≤ ac f j ∧ ac f j ≤ 33554431 := by
  have h0 := hb_le (f 0) h
  match j, hj with
  | 0, _ => simp [ac]; omega
  | 1, _ => simp [ac]; omega
  | 2, _ => simp [ac]; omega
  | 3, _ => simp [ac]; omega

theorem hb_1 (c : Int) (h : sz c = 1) : hb c = c := by unfold sz at h; unfold hb; revert h; (repeat' split) <;> omega
theorem hb_2 (c : Int) (h : sz c = 2) : hb c = c % 32 := by unfold sz at h; unfold hb; revert h; (repeat' split) <;> omega
theorem hb_3 (c : Int) (h : sz c = 3) : hb c = c % 16 := by unfold sz at h; unfold hb; revert h; (repeat' split) <;> omega
theorem hb_4 (c : Int) (h : sz c = 4) : hb c = c % 8 := by unfold sz at h; unfold hb; revert h; (repeat' split) <;> omega

theorem lob_more (c : Int) (j : Nat) (h : j ≠ 1) : lob c j = 128 := by simp [lob, h]
theorem hib_more (c : Int) (j : Nat) (h : j ≠ 1) : hib c j = 191 := by simp [hib, h]
theorem lob_le (c : Int) (j : Nat) : 0 ≤ lob c j ∧ lob c j ≤ 255 := by have := lo_le c; unfold lob; split <;> omega
theorem hib_le (c : Int) (j : Nat) : 0 ≤ hib c j ∧ hib c j ≤ 255 := by have := hi_le c; unfold hib; split <;> omega

/-- What is left to do at byte j + 1 of an item that asks for S bytes. -/
def left (f : Nat → Int) (n S j : Nat) : Int × Nat × Bool := run f n (S - 1 - j) (ac f j) (j + 1) (lob (f 0) (j + 1)) (hib (f 0) (j + 1))

theorem left_start (f : Nat → Int) (n : Nat) (h : sz (f 0) ≠ 0) : left f n (sz (f 0)) 0 = it f n 0 := by
  unfold left it
  rw [if_neg h, lob_one, hib_one]
  rfl
theorem left_end (f : Nat → Int) (n S j : Nat) (h : j + 1 = S) : left f n S j = (ac f j, S, true) := by
  unfold left
  rw [show S - 1 - j = 0 from by omega, run, h]
theorem left_stop (f : Nat → Int) (n S j : Nat) (h : j + 1 < S) (hc : ¬ (j + 1 < n ∧ lob (f 0) (j + 1) ≤ f (j + 1) ∧ f (j + 1) ≤ hib (f 0) (j + 1))) : left f n S j = (65533, j + 1, false) := by
  unfold left
  exact run_stop _ _ _ _ _ _ _ (by omega) hc
theorem left_go (f : Nat → Int) (n S j : Nat) (h : j + 1 < S) (hc : j + 1 < n ∧ lob (f 0) (j + 1) ≤ f (j + 1) ∧ f (j + 1) ≤ hib (f 0) (j + 1)) : left f n S (j + 1) = left f n S j := by
  unfold left
  rw [run_go _ _ (S - 1 - j) _ _ _ _ (by omega) hc, lob_more _ _ (by omega), hib_more _ _ (by omega), show S - 1 - (j + 1) = S - 1 - j - 1 from by omega]
  rfl
end Go.Proofs.Ytpdkdfgcnhcmkaa.utf
