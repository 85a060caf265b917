/- Plain mathematics of UTF-8 items (no program): the item at a place of bytes, the items of bytes, a code point's bytes; bytes are a function from places to numbers and a length. -/
import Derived.Laws.BitsLemmas
set_option linter.unusedVariables false
set_option linter.unusedSimpArgs false
namespace Go.Proofs.Ytpdkdfgcnhcmkaa.utf

/-- How many bytes a first byte asks for. -/
def sz (c : Int) : Nat := if c ≤ 127 then 1 else if 194 ≤ c ∧ c ≤ 223 then 2 else if 224 ≤ c ∧ c ≤ 239 then 3 else if 240 ≤ c ∧ c ≤ 244 then 4 else 0
/-- Its bits of the code point. -/
def hb (c : Int) : Int := if c ≤ 127 then c else if 194 ≤ c ∧ c ≤ 223 then c % 32 else if 224 ≤ c ∧ c ≤ 239 then c % 16 else if 240 ≤ c ∧ c ≤ 244 then c % 8 else 0
/-- The least and the greatest second byte. -/
def lo (c : Int) : Int := if c = 224 then 160 else if c = 240 then 144 else 128
def hi (c : Int) : Int := if c = 237 then 159 else if c = 244 then 143 else 191

/-- The least and the greatest byte at a place behind the first one. -/
def lob (c : Int) (a : Nat) : Int := if a = 1 then lo c else 128
def hib (c : Int) (a : Nat) : Int := if a = 1 then hi c else 191
theorem lob_one (c : Int) : lob c 1 = lo c := by simp [lob]
theorem hib_one (c : Int) : hib c 1 = hi c := by simp [hib]

theorem sz_le (c : Int) : sz c ≤ 4 := by unfold sz; (repeat' split) <;> omega
theorem hb_le (c : Int) (h : 0 ≤ c) : 0 ≤ hb c ∧ hb c ≤ 127 := by unfold hb; (repeat' split) <;> omega
theorem hb_small (c : Int) (h : 0 ≤ c) : (2 ≤ sz c → hb c ≤ 31) ∧ (3 ≤ sz c → hb c ≤ 15) ∧ (4 ≤ sz c → hb c ≤ 7) := by unfold hb sz; (repeat' split) <;> omega
theorem lo_le (c : Int) : 128 ≤ lo c ∧ lo c ≤ 160 := by unfold lo; (repeat' split) <;> omega
theorem hi_le (c : Int) : 143 ≤ hi c ∧ hi c ≤ 191 := by unfold hi; (repeat' split) <;> omega

/-- Going on behind the first byte: so many bytes are still asked for. The code point, the end, whether it is well-formed. -/
def run (f : Nat → Int) (n : Nat) : Nat → Int → Nat → Int → Int → Int × Nat × Bool
  | 0, r, e, _, _ => (r, e, true)
  | k + 1, r, e, l, h => if e < n ∧ l ≤ f e ∧ f e ≤ h then run f n k (r * 64 + f e % 64) (e + 1) 128 191 else (65533, e, false)

theorem run_stop (f : Nat → Int) (n k : Nat) (r : Int) (e : Nat) (l h : Int) (hk : k ≠ 0) (hc : ¬ (e < n ∧ l ≤ f e ∧ f e ≤ h)) : run f n k r e l h = (65533, e, false) := by
  cases k with
  | zero => omega
  | succ k => unfold run; rw [if_neg hc]
theorem run_go (f : Nat → Int) (n k : Nat) (r : Int) (e : Nat) (l h : Int) (hk : k ≠ 0) (hc : e < n ∧ l ≤ f e ∧ f e ≤ h) : run f n k r e l h = run f n (k - 1) (r * 64 + f e % 64) (e + 1) 128 191 := by
  cases k with
  | zero => omega
  | succ k => rw [run, if_pos hc]; rfl

/-- The item at a place. -/
def it (f : Nat → Int) (n a : Nat) : Int × Nat × Bool :=
  if sz (f a) = 0 then (65533, a + 1, false) else run f n (sz (f a) - 1) (hb (f a)) (a + 1) (lo (f a)) (hi (f a))

theorem run_end (f : Nat → Int) (n : Nat) : ∀ k r e l h, e ≤ (run f n k r e l h).2.1 ∧ (run f n k r e l h).2.1 ≤ e + k ∧ (e ≤ n → (run f n k r e l h).2.1 ≤ n) := by
  intro k
  induction k with
  | zero => intro r e l h; simp [run]
  | succ k ih =>
    intro r e l h
    unfold run
    split
    · have := ih (r * 64 + f e % 64) (e + 1) 128 191
      omega
    · simp

theorem it_end (f : Nat → Int) (n a : Nat) (ha : a < n) : a < (it f n a).2.1 ∧ (it f n a).2.1 ≤ n ∧ (it f n a).2.1 ≤ a + 4 := by
  unfold it
  have := sz_le (f a)
  split
  · simp; omega
  · have := run_end f n (sz (f a) - 1) (hb (f a)) (a + 1) (lo (f a)) (hi (f a))
    omega

theorem run_shift (f : Nat → Int) (n d : Nat) : ∀ k r e l h, run (fun i => f (d + i)) n k r e l h = ((run f (d + n) k r (d + e) l h).1, (run f (d + n) k r (d + e) l h).2.1 - d, (run f (d + n) k r (d + e) l h).2.2) := by
  intro k
  induction k with
  | zero => intro r e l h; simp [run]
  | succ k ih =>
    intro r e l h
    unfold run
    by_cases c : e < n ∧ l ≤ f (d + e) ∧ f (d + e) ≤ h
    · rw [if_pos c, if_pos (by omega), ih]
      rfl
    · rw [if_neg c, if_neg (by omega)]
      simp

theorem it_shift (f : Nat → Int) (n d a : Nat) : it (fun i => f (d + i)) n a = ((it f (d + n) (d + a)).1, (it f (d + n) (d + a)).2.1 - d, (it f (d + n) (d + a)).2.2) := by
  unfold it
  split
  · simp; omega
  · rw [run_shift]
    rfl

/-- The items from a place on, with so much fuel: code point, beginning, end. -/
def dec (f : Nat → Int) (n : Nat) : Nat → Nat → List (Int × Nat × Nat)
  | 0, _ => []
  | k + 1, a => if a < n then ((it f n a).1, a, (it f n a).2.1) :: dec f n k (it f n a).2.1 else []

/-- Whether all from a place on are well-formed. -/
def val (f : Nat → Int) (n : Nat) : Nat → Nat → Bool
  | 0, _ => true
  | k + 1, a => if a < n then (it f n a).2.2 && val f n k (it f n a).2.1 else true

theorem dec_fuel (f : Nat → Int) (n : Nat) : ∀ k a, n ≤ a + k → ∀ m, n ≤ a + m → dec f n k a = dec f n m a := by
  intro k
  induction k with
  | zero => intro a h m hm; cases m with
    | zero => rfl
    | succ m => simp [dec]; omega
  | succ k ih => intro a h m hm; cases m with
    | zero => simp [dec]; omega
    | succ m =>
      simp only [dec]
      split
      · rename_i ha
        have := it_end f n a ha
        rw [ih _ (by omega) m (by omega)]
      · rfl

theorem val_fuel (f : Nat → Int) (n : Nat) : ∀ k a, n ≤ a + k → ∀ m, n ≤ a + m → val f n k a = val f n m a := by
  intro k
  induction k with
  | zero => intro a h m hm; cases m with
    | zero => rfl
    | succ m => simp [val]; omega
  | succ k ih => intro a h m hm; cases m with
    | zero => simp [val]; omega
    | succ m =>
      simp only [val]
      split
      · rename_i ha
        have := it_end f n a ha
        rw [ih _ (by omega) m (by omega)]
      · rfl

/-- All items from a place on; whether all are well-formed. -/
def items (f : Nat → Int) (n a : Nat) : List (Int × Nat × Nat) := dec f n (n - a) a
def valid (f : Nat → Int) (n a : Nat) : Bool := val f n (n - a) a

theorem items_step (f : Nat → Int) (n a : Nat) (h : a < n) : items f n a = ((it f n a).1, a, (it f n a).2.1) :: items f n (it f n a).2.1 := by
  have e := it_end f n a h
  unfold items
  rw [show n - a = (n - a - 1) + 1 from by omega]
  simp only [dec]
  rw [if_pos h, dec_fuel f n (n - a - 1) _ (by omega) (n - (it f n a).2.1) (by omega)]
theorem items_end (f : Nat → Int) (n a : Nat) (h : n ≤ a) : items f n a = [] := by
  unfold items
  rw [show n - a = 0 from by omega]
  rfl
theorem valid_step (f : Nat → Int) (n a : Nat) (h : a < n) : valid f n a = ((it f n a).2.2 && valid f n (it f n a).2.1) := by
  have e := it_end f n a h
  unfold valid
  rw [show n - a = (n - a - 1) + 1 from by omega]
  simp only [val]
  rw [if_pos h, val_fuel f n (n - a - 1) _ (by omega) (n - (it f n a).2.1) (by omega)]
theorem valid_end (f : Nat → Int) (n a : Nat) (h : n ≤ a) : valid f n a = true := by
  unfold valid
  rw [show n - a = 0 from by omega]
  rfl

end Go.Proofs.Ytpdkdfgcnhcmkaa.utf
