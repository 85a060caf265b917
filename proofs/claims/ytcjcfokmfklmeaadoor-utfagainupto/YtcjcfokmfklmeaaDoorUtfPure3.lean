/- Plain mathematics: a well-formed item's code point has just its bytes, a malformed part's has not; so the bytes written anew are the bytes read where, and only where, all are well-formed. -/
import Derived.Test.YtcjcfokmfklmeaaDoorUtfBack
import Derived.Test.YtcjcfokmfklmeaaDoorUtfClone
set_option linter.unusedVariables false
set_option linter.unusedSimpArgs false
namespace Go.Proofs.YtcjcfokmfklmeaaDoor.utf
open Go.RowKit

/-- The bytes from a place up to another. -/
def seg (f : Nat → Int) (a m : Nat) : List Int := (List.range m).map fun i => f (a + i)
theorem seg_split (f : Nat → Int) (a m k : Nat) : seg f a (m + k) = seg f a m ++ seg f (a + m) k := by
  unfold seg
  rw [List.range_add, List.map_append, List.map_map]
  congr 1
  apply List.map_congr_left
  intro x _
  simp [Nat.add_assoc]
theorem seg_1 (f : Nat → Int) (a : Nat) : seg f a 1 = [f a] := by simp [seg]
theorem seg_2 (f : Nat → Int) (a : Nat) : seg f a 2 = [f a, f (a + 1)] := by simp [seg, List.range_succ]
theorem seg_3 (f : Nat → Int) (a : Nat) : seg f a 3 = [f a, f (a + 1), f (a + 2)] := by simp [seg, List.range_succ]
theorem seg_4 (f : Nat → Int) (a : Nat) : seg f a 4 = [f a, f (a + 1), f (a + 2), f (a + 3)] := by simp [seg, List.range_succ]

theorem sz_range (c : Int) : (sz c = 1 → c ≤ 127) ∧ (sz c = 2 → 194 ≤ c ∧ c ≤ 223) ∧ (sz c = 3 → 224 ≤ c ∧ c ≤ 239) ∧ (sz c = 4 → 240 ≤ c ∧ c ≤ 244) := by
  unfold sz; (repeat' split) <;> omega
theorem lo_range (c : Int) : (c = 224 → lo c = 160) ∧ (c = 240 → lo c = 144) ∧ (c ≠ 224 → c ≠ 240 → lo c = 128) := by unfold lo; (repeat' split) <;> omega
theorem hi_range (c : Int) : (c = 237 → hi c = 159) ∧ (c = 244 → hi c = 143) ∧ (c ≠ 237 → c ≠ 244 → hi c = 191) := by unfold hi; (repeat' split) <;> omega

theorem len_1 (r : Int) (h0 : 0 ≤ r) (h1 : r ≤ 127) : len r = 1 := by unfold len; (repeat' split) <;> omega
theorem len_2 (r : Int) (h0 : 128 ≤ r) (h1 : r ≤ 2047) : len r = 2 := by unfold len; (repeat' split) <;> omega
theorem len_3 (r : Int) (h0 : 2048 ≤ r) (h1 : r ≤ 65535) (h2 : ¬ (55296 ≤ r ∧ r ≤ 57343)) : len r = 3 := by unfold len; (repeat' split) <;> omega
theorem len_4 (r : Int) (h0 : 65536 ≤ r) (h1 : r ≤ 1114111) : len r = 4 := by unfold len; (repeat' split) <;> omega

theorem enc_of_1 (r : Int) (c : len r = 1) : enc r = [r] := by unfold enc; rw [if_pos c]
theorem enc_of_2 (r : Int) (c : len r = 2) : enc r = [192 + r / 64, 128 + r % 64] := by unfold enc; rw [if_neg (by omega), if_pos c]
theorem enc_of_3 (r : Int) (c : len r = 3) : enc r = [224 + r / 64 / 64, 128 + r / 64 % 64, 128 + r % 64] := by unfold enc; rw [if_neg (by omega), if_neg (by omega), if_pos c]
theorem enc_of_4 (r : Int) (c : len r = 4) : enc r = [240 + r / 64 / 64 / 64, 128 + r / 64 / 64 % 64, 128 + r / 64 % 64, 128 + r % 64] := by unfold enc; rw [if_neg (by omega), if_neg (by omega), if_neg (by omega), if_pos c]

theorem it_good (f : Nat → Int) (n a : Nat) (hf : ∀ i, 0 ≤ f i ∧ f i ≤ 255) (h : (it f n a).2.2 = true) :
    len (it f n a).1 ≠ 0 ∧ enc (it f n a).1 = seg f a ((it f n a).2.1 - a) := by
  have h4 := sz_le (f a)
  have hr := sz_range (f a)
  have hl := lo_range (f a)
  have hh := hi_range (f a)
  have f0 := hf a
  have f1 := hf (a + 1)
  have f2 := hf (a + 2)
  have f3 := hf (a + 3)
  rcases (show sz (f a) = 0 ∨ sz (f a) = 1 ∨ sz (f a) = 2 ∨ sz (f a) = 3 ∨ sz (f a) = 4 from by omega) with s | s | s | s | s
  · have e : it f n a = (65533, a + 1, false) := by unfold it; rw [if_pos s]
    rw [e] at h; simp at h
  · rw [it_1 f n a s]
    have b := hb_1 (f a) s
    have l := len_1 (f a) (by omega) (by omega)
    simp only [b]
    exact ⟨by omega, by rw [enc_of_1 _ l, show a + 1 - a = 1 from by omega, seg_1]⟩
  · by_cases c1 : a + 1 < n ∧ lo (f a) ≤ f (a + 1) ∧ f (a + 1) ≤ hi (f a)
    · rw [it_2 f n a s c1, hb_2 (f a) s]
      have l := len_2 (f a % 32 * 64 + f (a + 1) % 64) (by omega) (by omega)
      refine ⟨by simp only []; omega, ?_⟩
      simp only []
      rw [enc_of_2 _ l, show a + 2 - a = 2 from by omega, seg_2]
      rw [show 192 + (f a % 32 * 64 + f (a + 1) % 64) / 64 = f a from by omega, show 128 + (f a % 32 * 64 + f (a + 1) % 64) % 64 = f (a + 1) from by omega]
    · have e : it f n a = (65533, a + 1, false) := by unfold it; rw [if_neg (by omega), s, run_stop _ _ _ _ _ _ _ (by decide) c1]
      rw [e] at h; simp at h
  · by_cases c1 : a + 1 < n ∧ lo (f a) ≤ f (a + 1) ∧ f (a + 1) ≤ hi (f a)
    · by_cases c2 : a + 2 < n ∧ 128 ≤ f (a + 2) ∧ f (a + 2) ≤ 191
      · rw [it_3 f n a s c1 c2, hb_3 (f a) s]
        have l := len_3 ((f a % 16 * 64 + f (a + 1) % 64) * 64 + f (a + 2) % 64) (by omega) (by omega) (by omega)
        refine ⟨by simp only []; omega, ?_⟩
        simp only []
        rw [enc_of_3 _ l, show a + 3 - a = 3 from by omega, seg_3]
        rw [show 224 + ((f a % 16 * 64 + f (a + 1) % 64) * 64 + f (a + 2) % 64) / 64 / 64 = f a from by omega, show 128 + ((f a % 16 * 64 + f (a + 1) % 64) * 64 + f (a + 2) % 64) / 64 % 64 = f (a + 1) from by omega, show 128 + ((f a % 16 * 64 + f (a + 1) % 64) * 64 + f (a + 2) % 64) % 64 = f (a + 2) from by omega]
      · have e : it f n a = (65533, a + 2, false) := by unfold it; rw [if_neg (by omega), s, run_go _ _ _ _ _ _ _ (by decide) c1, run_stop _ _ _ _ _ _ _ (by decide) c2]
        rw [e] at h; simp at h
    · have e : it f n a = (65533, a + 1, false) := by unfold it; rw [if_neg (by omega), s, run_stop _ _ _ _ _ _ _ (by decide) c1]
      rw [e] at h; simp at h
  · by_cases c1 : a + 1 < n ∧ lo (f a) ≤ f (a + 1) ∧ f (a + 1) ≤ hi (f a)
    · by_cases c2 : a + 2 < n ∧ 128 ≤ f (a + 2) ∧ f (a + 2) ≤ 191
      · by_cases c3 : a + 3 < n ∧ 128 ≤ f (a + 3) ∧ f (a + 3) ≤ 191
        · rw [it_4 f n a s c1 c2 c3, hb_4 (f a) s]
          have l := len_4 (((f a % 8 * 64 + f (a + 1) % 64) * 64 + f (a + 2) % 64) * 64 + f (a + 3) % 64) (by omega) (by omega)
          refine ⟨by simp only []; omega, ?_⟩
          simp only []
          rw [enc_of_4 _ l, show a + 4 - a = 4 from by omega, seg_4]
          rw [show 240 + (((f a % 8 * 64 + f (a + 1) % 64) * 64 + f (a + 2) % 64) * 64 + f (a + 3) % 64) / 64 / 64 / 64 = f a from by omega, show 128 + (((f a % 8 * 64 + f (a + 1) % 64) * 64 + f (a + 2) % 64) * 64 + f (a + 3) % 64) / 64 / 64 % 64 = f (a + 1) from by omega, show 128 + (((f a % 8 * 64 + f (a + 1) % 64) * 64 + f (a + 2) % 64) * 64 + f (a + 3) % 64) / 64 % 64 = f (a + 2) from by omega, show 128 + (((f a % 8 * 64 + f (a + 1) % 64) * 64 + f (a + 2) % 64) * 64 + f (a + 3) % 64) % 64 = f (a + 3) from by omega]
        · have e : it f n a = (65533, a + 3, false) := by unfold it; rw [if_neg (by omega), s, run_go _ _ _ _ _ _ _ (by decide) c1, run_go _ _ _ _ _ _ _ (by decide) c2, run_stop _ _ _ _ _ _ _ (by decide) c3]
          rw [e] at h; simp at h
      · have e : it f n a = (65533, a + 2, false) := by unfold it; rw [if_neg (by omega), s, run_go _ _ _ _ _ _ _ (by decide) c1, run_stop _ _ _ _ _ _ _ (by decide) c2]
        rw [e] at h; simp at h
    · have e : it f n a = (65533, a + 1, false) := by unfold it; rw [if_neg (by omega), s, run_stop _ _ _ _ _ _ _ (by decide) c1]
      rw [e] at h; simp at h

theorem run_bad (f : Nat → Int) (n : Nat) : ∀ k r e l h, (run f n k r e l h).2.2 = false → (run f n k r e l h).1 = 65533 := by
  intro k
  induction k with
  | zero => intro r e l h; simp [run]
  | succ k ih =>
    intro r e l h
    unfold run
    split
    · exact ih _ _ _ _
    · simp
theorem it_bad (f : Nat → Int) (n a : Nat) (h : (it f n a).2.2 = false) : (it f n a).1 = 65533 := by
  unfold it at h ⊢
  split
  · rfl
  · rename_i hs
    rw [if_neg hs] at h
    exact run_bad _ _ _ _ _ _ _ h
theorem enc_fffd : enc 65533 = [239, 191, 189] := by decide
theorem it_len (f : Nat → Int) (n a : Nat) (hf : ∀ i, 0 ≤ f i ∧ f i ≤ 255) : len (it f n a).1 ≠ 0 := by
  cases h : (it f n a).2.2 with
  | true => exact (it_good f n a hf h).1
  | false => rw [it_bad f n a h]; decide
/-- Where the replacement's own bytes stand, the item is well-formed. -/
theorem it_fffd (f : Nat → Int) (n a : Nat) (h0 : f a = 239) (h1 : f (a + 1) = 191) (h2 : f (a + 2) = 189) (hn : a + 2 < n) : (it f n a).2.2 = true := by
  have s : sz (f a) = 3 := by rw [h0]; decide
  rw [it_3 f n a s ⟨by omega, by rw [h0, h1]; decide, by rw [h0, h1]; decide⟩ ⟨by omega, by omega, by omega⟩]

/-- The bytes of items, written anew. -/
def encs (l : List (Int × Nat × Nat)) : List Int := l.flatMap fun x => enc x.1
theorem encs_cons (x : Int × Nat × Nat) (l : List (Int × Nat × Nat)) : encs (x :: l) = enc x.1 ++ encs l := by simp [encs]

theorem again (f : Nat → Int) (n : Nat) (hf : ∀ i, 0 ≤ f i ∧ f i ≤ 255) : ∀ m a, n - a = m → a ≤ n → (encs (items f n a) = seg f a (n - a) ↔ valid f n a = true) := by
  intro m
  induction m using Nat.strongRecOn with
  | ind m ih =>
    intro a hm han
    rcases Nat.lt_or_ge a n with h | h
    · have e := it_end f n a h
      rw [items_step f n a h, encs_cons, valid_step f n a h]
      have ih' := ih (n - (it f n a).2.1) (by omega) (it f n a).2.1 rfl (by omega)
      have hs : seg f a (n - a) = seg f a ((it f n a).2.1 - a) ++ seg f (it f n a).2.1 (n - (it f n a).2.1) := by
        have := seg_split f a ((it f n a).2.1 - a) (n - (it f n a).2.1)
        rw [show (it f n a).2.1 - a + (n - (it f n a).2.1) = n - a from by omega, show a + ((it f n a).2.1 - a) = (it f n a).2.1 from by omega] at this
        exact this
      cases hk : (it f n a).2.2 with
      | true =>
        rw [hs, (it_good f n a hf hk).2, List.append_cancel_left_eq, ih']
        simp
      | false =>
        rw [it_bad f n a hk, enc_fffd]
        simp only [Bool.false_and, Bool.false_eq_true, iff_false]
        intro hh
        have l3 : 3 ≤ n - a := by
          have := congrArg List.length hh
          simp [seg] at this
          omega
        rw [show n - a = 3 + (n - a - 3) from by omega, seg_split, seg_3] at hh
        simp at hh
        have := it_fffd f n a hh.1.symm hh.2.1.symm hh.2.2.1.symm (by omega)
        rw [this] at hk
        exact absurd hk (by simp)
    · obtain rfl : a = n := by omega
      rw [items_end f a a (Nat.le_refl _), valid_end f a a (Nat.le_refl _)]
      simp [encs, seg]
end Go.Proofs.YtcjcfokmfklmeaaDoor.utf
