/- Texts that the proof leans on, one behind the other. -/
import Derived.Laws.BitsLemmas
import Derived.Test.YtlidgjkipbijlaaGreatDoorProg
import Derived.WalkKit
import Derived.WalkSpells
import Derived.WalkLawsBesides
import Derived.Outline

section
/- Plain mathematics of UTF-8 items (no program): the item at a place of bytes, the items of bytes, a code point's bytes; bytes are a function from places to numbers and a length. -/
set_option linter.unusedVariables false
set_option linter.unusedSimpArgs false
namespace Go.Proofs.YtlidgjkipbijlaaGreatDoor.utf

/-- How many bytes a first byte asks for. -/
def sz (c : Int) : Nat := if c ≤ 127 then 1 else if 194 ≤ c ∧ c ≤ 223 then 2 else if 224 ≤ c ∧ c ≤ 239 then 3 else if 240 ≤ c ∧ c ≤ 244 then 4 else 0
/-- Its bits of the code point. -/
def hb (c : Int) : Int := if c ≤ 127 then c else if 194 ≤ c ∧ c ≤ 223 then c % 32 else if 224 ≤ c ∧ c ≤ 239 then c % 16 else if 240 ≤ c ∧ c ≤ 244 then c % 8 else 0
/-- The least and the greatest second byte. -/
def lo (c : Int) : Int := if c = 224 then 160 else if c = 240 then 144 else 128
def hi (c : Int) : Int := if c = 237 then 159 else if c = 244 then 143 else 191

/-- The least and the greatest byte at a place behind the first one. -/
def lob (c : Int) (a : Nat) : Int := if a = 1 then lo c else 128
def hib (c : Int) (a : Nat) : Int := if a = 1 then hi c else 191
theorem lob_one (c : Int) : lob c 1 = lo c := by simp [lob]
theorem hib_one (c : Int) : hib c 1 = hi c := by simp [hib]

theorem sz_le (c : Int) : sz c ≤ 4 := by unfold sz; (repeat' split) <;> omega
theorem hb_le (c : Int) (h : 0 ≤ c) : 0 ≤ hb c ∧ hb c ≤ 127 := by unfold hb; (repeat' split) <;> omega
theorem hb_small (c : Int) (h : 0 ≤ c) : (2 ≤ sz c → hb c ≤ 31) ∧ (3 ≤ sz c → hb c ≤ 15) ∧ (4 ≤ sz c → hb c ≤ 7) := by unfold hb sz; (repeat' split) <;> omega
theorem lo_le (c : Int) : 128 ≤ lo c ∧ lo c ≤ 160 := by unfold lo; (repeat' split) <;> omega
theorem hi_le (c : Int) : 143 ≤ hi c ∧ hi c ≤ 191 := by unfold hi; (repeat' split) <;> omega

/-- Going on behind the first byte: so many bytes are still asked for. The code point, the end, whether it is well-formed. -/
def run (f : Nat → Int) (n : Nat) : Nat → Int → Nat → Int → Int → Int × Nat × Bool
  | 0, r, e, _, _ => (r, e, true)
  | k + 1, r, e, l, h => if e < n ∧ l ≤ f e ∧ f e ≤ h then run f n k (r * 64 + f e % 64) (e + 1) 128 191 else (65533, e, false)

theorem run_stop (f : Nat → Int) (n k : Nat) (r : Int) (e : Nat) (l h : Int) (hk : k ≠ 0) (hc : ¬ (e < n ∧ l ≤ f e ∧ f e ≤ h)) : run f n k r e l h = (65533, e, false) := by
  cases k with
  | zero => omega
  | succ k => unfold run; rw [if_neg hc]
theorem run_go (f : Nat → Int) (n k : Nat) (r : Int) (e : Nat) (l h : Int) (hk : k ≠ 0) (hc : e < n ∧ l ≤ f e ∧ f e ≤ h) : run f n k r e l h = run f n (k - 1) (r * 64 + f e % 64) (e + 1) 128 191 := by
  cases k with
  | zero => omega
  | succ k => rw [run, if_pos hc]; rfl

/-- The item at a place. -/
def it (f : Nat → Int) (n a : Nat) : Int × Nat × Bool :=
  if sz (f a) = 0 then (65533, a + 1, false) else run f n (sz (f a) - 1) (hb (f a)) (a + 1) (lo (f a)) (hi (f a))

theorem run_end (f : Nat → Int) (n : Nat) : ∀ k r e l h, e ≤ (run f n k r e l h).2.1 ∧ (run f n k r e l h).2.1 ≤ e + k ∧ (e ≤ n → (run f n k r e l h).2.1 ≤ n) := by
  intro k
  induction k with
  | zero => intro r e l h; simp [run]
  | succ k ih =>
    intro r e l h
    unfold run
    split
    · have := ih (r * 64 + f e % 64) (e + 1) 128 191
      omega
    · simp

theorem it_end (f : Nat → Int) (n a : Nat) (ha : a < n) : a < (it f n a).2.1 ∧ (it f n a).2.1 ≤ n ∧ (it f n a).2.1 ≤ a + 4 := by
  unfold it
  have := sz_le (f a)
  split
  · simp; omega
  · have := run_end f n (sz (f a) - 1) (hb (f a)) (a + 1) (lo (f a)) (hi (f a))
    omega

theorem run_shift (f : Nat → Int) (n d : Nat) : ∀ k r e l h, run (fun i => f (d + i)) n k r e l h = ((run f (d + n) k r (d + e) l h).1, (run f (d + n) k r (d + e) l h).2.1 - d, (run f (d + n) k r (d + e) l h).2.2) := by
  intro k
  induction k with
  | zero => intro r e l h; simp [run]
  | succ k ih =>
    intro r e l h
    unfold run
    by_cases c : e < n ∧ l ≤ f (d + e) ∧ f (d + e) ≤ h
    · rw [if_pos c, if_pos (by omega), ih]
      rfl
    · rw [if_neg c, if_neg (by omega)]
      simp

theorem it_shift (f : Nat → Int) (n d a : Nat) : it (fun i => f (d + i)) n a = ((it f (d + n) (d + a)).1, (it f (d + n) (d + a)).2.1 - d, (it f (d + n) (d + a)).2.2) := by
  unfold it
  split
  · simp; omega
  · rw [run_shift]
    rfl

/-- The items from a place on, with so much fuel: code point, beginning, end. -/
def dec (f : Nat → Int) (n : Nat) : Nat → Nat → List (Int × Nat × Nat)
  | 0, _ => []
  | k + 1, a => if a < n then ((it f n a).1, a, (it f n a).2.1) :: dec f n k (it f n a).2.1 else []

/-- Whether all from a place on are well-formed. -/
def val (f : Nat → Int) (n : Nat) : Nat → Nat → Bool
  | 0, _ => true
  | k + 1, a => if a < n then (it f n a).2.2 && val f n k (it f n a).2.1 else true

theorem dec_fuel (f : Nat → Int) (n : Nat) : ∀ k a, n ≤ a + k → ∀ m, n ≤ a + m → dec f n k a = dec f n m a := by
  intro k
  induction k with
  | zero => intro a h m hm; cases m with
    | zero => rfl
    | succ m => simp [dec]; omega
  | succ k ih => intro a h m hm; cases m with
    | zero => simp [dec]; omega
    | succ m =>
      simp only [dec]
      split
      · rename_i ha
        have := it_end f n a ha
        rw [ih _ (by omega) m (by omega)]
      · rfl

theorem val_fuel (f : Nat → Int) (n : Nat) : ∀ k a, n ≤ a + k → ∀ m, n ≤ a + m → val f n k a = val f n m a := by
  intro k
  induction k with
  | zero => intro a h m hm; cases m with
    | zero => rfl
    | succ m => simp [val]; omega
  | succ k ih => intro a h m hm; cases m with
    | zero => simp [val]; omega
    | succ m =>
      simp only [val]
      split
      · rename_i ha
        have := it_end f n a ha
        rw [ih _ (by omega) m (by omega)]
      · rfl

/-- All items from a place on; whether all are well-formed. -/
def items (f : Nat → Int) (n a : Nat) : List (Int × Nat × Nat) := dec f n (n - a) a
def valid (f : Nat → Int) (n a : Nat) : Bool := val f n (n - a) a

theorem items_step (f : Nat → Int) (n a : Nat) (h : a < n) : items f n a = ((it f n a).1, a, (it f n a).2.1) :: items f n (it f n a).2.1 := by
  have e := it_end f n a h
  unfold items
  rw [show n - a = (n - a - 1) + 1 from by omega]
  simp only [dec]
  rw [if_pos h, dec_fuel f n (n - a - 1) _ (by omega) (n - (it f n a).2.1) (by omega)]
theorem items_end (f : Nat → Int) (n a : Nat) (h : n ≤ a) : items f n a = [] := by
  unfold items
  rw [show n - a = 0 from by omega]
  rfl
theorem valid_step (f : Nat → Int) (n a : Nat) (h : a < n) : valid f n a = ((it f n a).2.2 && valid f n (it f n a).2.1) := by
  have e := it_end f n a h
  unfold valid
  rw [show n - a = (n - a - 1) + 1 from by omega]
  simp only [val]
  rw [if_pos h, val_fuel f n (n - a - 1) _ (by omega) (n - (it f n a).2.1) (by omega)]
theorem valid_end (f : Nat → Int) (n a : Nat) (h : n ≤ a) : valid f n a = true := by
  unfold valid
  rw [show n - a = 0 from by omega]
  rfl

end Go.Proofs.YtlidgjkipbijlaaGreatDoor.utf
end

section
/- What the small functions of utf and of the document's answer return: tailOf, sizeOf, headOf, secondBounds, isTail, Size, bounds; none of them changes memory. -/
set_option linter.unusedVariables false
set_option linter.unusedSimpArgs false
namespace Go.Proofs.YtlidgjkipbijlaaGreatDoor.utf
open Go.RowKit

theorem ret_int {k : IntKind} {a b : Int} (h : a = b) : Ending.returned (.int k a) = .returned (.int k b) := by rw [h]
theorem ret_two {k k' : IntKind} {a b a' b' : Int} (h : a = b) (h' : a' = b') : Ending.returned (.tuple #[.int k a, .int k' a']) = .returned (.tuple #[.int k b, .int k' b']) := by rw [h, h']
theorem ret_iib {k k' : IntKind} {a b a' b' : Int} {c d : Bool} (h : a = b) (h' : a' = b') (hc : c = d) : Ending.returned (.tuple #[.int k a, .int k' a', .bool c]) = .returned (.tuple #[.int k b, .int k' b', .bool d]) := by rw [h, h', hc]
theorem ret_bool {a b : Bool} (h : a = b) : Ending.returned (.bool a) = .returned (.bool b) := by rw [h]
/-- How many bytes a code point has; 0: none. -/
def len (r : Int) : Int := if r < 0 ∨ 1114111 < r ∨ (55296 ≤ r ∧ r ≤ 57343) then 0 else if r ≤ 127 then 1 else if r ≤ 2047 then 2 else if r ≤ 65535 then 3 else 4

theorem head_any (c : Int) (w : World) (h0 : 0 ≤ c) (h1 : c ≤ 255) :
    Calls Tryz.prog 87 #[.int .u8 c] w fun e w' => e = .returned (.tuple #[.int .i64 (sz c), .int .i64 (hb c)]) ∧ w' = w := by
  have e31 := u8_and31 c h0 (by omega)
  have e15 := u8_and15 c h0 (by omega)
  have e7 := u8_and7 c h0 (by omega)
  go_enter Tryz.func87, Tryz.ntmps87
  go_wp2
  all_goals go_ret2
  all_goals exact ⟨ret_two (by unfold sz; (repeat' split) <;> omega) (by unfold hb; (repeat' split) <;> omega), rfl⟩

theorem second_any (c : Int) (w : World) (h0 : 0 ≤ c) (h1 : c ≤ 255) :
    Calls Tryz.prog 88 #[.int .u8 c] w fun e w' => e = .returned (.tuple #[.int .u8 (lo c), .int .u8 (hi c)]) ∧ w' = w := by
  go_enter Tryz.func88, Tryz.ntmps88
  go_wp2
  all_goals go_ret2
  all_goals exact ⟨ret_two (by unfold lo; (repeat' split) <;> simp_all) (by unfold hi; (repeat' split) <;> simp_all), rfl⟩

theorem rsize_any (c : Int) (w : World) (h0 : 0 ≤ c) (h1 : c ≤ 255) :
    Calls Tryz.prog 61 #[.int .u8 c] w fun e w' => e = .returned (.int .i64 (sz c)) ∧ w' = w := by
  go_enter Tryz.func61, Tryz.ntmps61
  go_wp2
  all_goals (go_ret; exact ⟨ret_int (by unfold sz; (repeat' split) <;> omega), rfl⟩)

/-- What the document's bounds answer at a place behind the first byte. -/
theorem rbounds_one (c : Int) (w : World) (h0 : 0 ≤ c) (h1 : c ≤ 255) (hz : 1 < sz c) :
    Calls Tryz.prog 62 #[.int .u8 c, .int .i64 1] w fun e w' => e = .returned (.tuple #[.int .u8 (lo c), .int .u8 (hi c), .bool true]) ∧ w' = w := by
  have hs := sz_le c
  go_enter Tryz.func62, Tryz.ntmps62
  go_wp2_with (go_at_call 61; refine (rsize_any _ _ h0 h1).mono ?_; rintro e w' ⟨rfl, rfl⟩)
  all_goals go_ret3
  all_goals exact ⟨ret_iib (by unfold lo; (repeat' split) <;> simp_all) (by unfold hi; (repeat' split) <;> simp_all) rfl, rfl⟩
theorem rbounds_more (c : Int) (a : Int) (w : World) (h0 : 0 ≤ c) (h1 : c ≤ 255) (ha : 2 ≤ a) (hz : a < sz c) :
    Calls Tryz.prog 62 #[.int .u8 c, .int .i64 a] w fun e w' => e = .returned (.tuple #[.int .u8 128, .int .u8 191, .bool true]) ∧ w' = w := by
  have hs := sz_le c
  have hs1 : (a == 1) = false := by simp; omega
  go_enter Tryz.func62, Tryz.ntmps62
  go_wp2_with (go_at_call 61; refine (rsize_any _ _ h0 h1).mono ?_; rintro e w' ⟨rfl, rfl⟩)
  all_goals go_ret3
  all_goals exact ⟨rfl, rfl⟩
theorem rbounds_any (c : Int) (a : Nat) (w : World) (h0 : 0 ≤ c) (h1 : c ≤ 255) (ha : 1 ≤ a) (hz : a < sz c) :
    Calls Tryz.prog 62 #[.int .u8 c, .int .i64 a] w fun e w' => e = .returned (.tuple #[.int .u8 (lob c a), .int .u8 (hib c a), .bool true]) ∧ w' = w := by
  by_cases e : a = 1
  · subst e
    rw [lob_one, hib_one]
    exact rbounds_one c w h0 h1 hz
  · have e1 : lob c a = 128 := by simp [lob, e]
    have e2 : hib c a = 191 := by simp [hib, e]
    rw [e1, e2]
    exact rbounds_more c a w h0 h1 (by omega) (by omega)
end Go.Proofs.YtlidgjkipbijlaaGreatDoor.utf
end

section
/- What utf.itemAt answers: the item at a place of a row of bytes; nothing that was there changes. -/
set_option linter.unusedVariables false
set_option linter.unusedSimpArgs false
namespace Go.Proofs.YtlidgjkipbijlaaGreatDoor.utf
open Go.RowKit

theorem cells_alloc {w : World} {b off n : Nat} {g : Nat → Value} (hc : ∀ i, i < n → w.cell? ⟨b, off + i, none⟩ = some (g i)) (o : Obj) : ∀ i, i < n → (w.alloc o).cell? ⟨b, off + i, none⟩ = some (g i) :=
  fun i hi => (World.cell?_alloc_past o b (off + i) (World.block_lt_of_cell? w _ (hc i hi))).trans (hc i hi)

theorem item_zero (b off n cap : Nat) (f : Nat → Int) (a : Nat) (w : World) (hc : ∀ i, i < n → w.cell? ⟨b, off + i, none⟩ = some (.int .u8 (f i)))
    (ha : a < n) (hn : n ≤ 9223372036854775807) (hf : ∀ i, 0 ≤ f i ∧ f i ≤ 255) (hz : sz (f a) = 0) :
    Calls Tryz.prog 69 #[.slice (some ⟨b, off, none⟩) n cap, .int .i64 a] w fun e w' =>
      e = .returned (.tuple #[.agg #[.int .i64 65533, .int .i64 a, .int .i64 (a + 1 : Nat)], .bool false]) ∧ Below w.heap.size w w' := by
  have hca := fun o => cells_alloc hc o a ha
  have hfa := hf a
  clear hc hf
  generalize f a = c at *
  obtain ⟨hc0, hc1⟩ := hfa
  go_enter Tryz.func69, Tryz.ntmps69
  go_wp2_with (go_at_call 87; refine (head_any _ _ hc0 hc1).mono ?_; rintro e w' ⟨rfl, rfl⟩)
  refine bodyPost_ret (v := .tuple #[.agg #[.int .i64 65533, .int .i64 a, .int .i64 (a + 1 : Nat)], .bool false]) (by simp [results, Tryz.results69, go_sem]) rfl ⟨rfl, ?_⟩
  exact (Below.refl _ _).alloc (Nat.le_refl _) _

theorem or_tail (r c : Int) (h0 : 0 ≤ r) (h1 : r ≤ 8388607) (hc : 0 ≤ c) : bits BinOp.or IntKind.i64 (r * 64) (c % 64) = r * 64 + c % 64 :=
  bits_join .i64 63 (by decide) (fun n a b => by rw [IntKind.wrap_i64]; omega) 6 _ _ (by omega) (by omega) (by omega) (by omega) (by omega) (by omega)

set_option maxHeartbeats 400000 in
theorem item_more (b off n cap : Nat) (f : Nat → Int) (a : Nat) (w : World) (hc : ∀ i, i < n → w.cell? ⟨b, off + i, none⟩ = some (.int .u8 (f i)))
    (ha : a < n) (hn : n ≤ 9223372036854775807) (hf : ∀ i, 0 ≤ f i ∧ f i ≤ 255) (hz : 1 ≤ sz (f a)) :
    Calls Tryz.prog 69 #[.slice (some ⟨b, off, none⟩) n cap, .int .i64 a] w fun e w' =>
      e = .returned (.tuple #[.agg #[.int .i64 (it f n a).1, .int .i64 a, .int .i64 (it f n a).2.1], .bool (it f n a).2.2]) ∧ Below w.heap.size w w' := by
  have HC : Hid (∀ i, i < n → w.cell? ⟨b, off + i, none⟩ = some (.int .u8 (f i))) := hc
  have HF : Hid (∀ i, 0 ≤ f i ∧ f i ≤ 255) := hf
  have hca := fun o => cells_alloc hc o a ha
  have hfa := hf a
  have hs4 := sz_le (f a)
  have hbl := hb_le (f a) hfa.1
  have hbs := hb_small (f a) hfa.1
  have HIT : Hid (it f n a = run f n (sz (f a) - 1) (hb (f a)) (a + 1) (lo (f a)) (hi (f a))) := by unfold it; rw [if_neg (by omega)]; rfl
  clear hc hf
  obtain ⟨hc0, hc1⟩ := hfa
  go_enter Tryz.func69, Tryz.ntmps69
  go_wp2_with (first | (go_at_call 87; refine (head_any _ _ hc0 hc1).mono ?_; rintro e w' ⟨rfl, rfl⟩) | (go_at_call 88; refine (second_any _ _ hc0 hc1).mono ?_; rintro e w' ⟨rfl, rfl⟩))
  go_loop [7, 8, 9, 10] (fun r e l h => ∃ (k : Nat) (ρ : Int) (ε : Nat) (l0 h0 : Int), r = .int .i64 ρ ∧ e = .int .i64 ε ∧ l = .int .u8 l0 ∧ h = .int .u8 h0 ∧ ε + k = a + sz (f a) ∧ ε ≤ n ∧ a + 1 ≤ ε ∧ 0 ≤ ρ ∧ ρ ≤ 8388607 ∧
      Hid ((k = 1 → ρ ≤ 131071) ∧ (k = 2 → ρ ≤ 2047) ∧ (k = 3 → ρ ≤ 31)) ∧ Hid (run f n k ρ ε l0 h0 = it f n a)) (fun _ e _ _ => a + 4 - (intOf e).toNat)
  case atStart => exact ⟨sz (f a) - 1, hb (f a), a + 1, lo (f a), hi (f a), rfl, by go_num, rfl, rfl, by omega, by omega, by omega, hbl.1, by omega, (by unfold Hid; omega), HIT.out.symm⟩
  case round =>
    obtain ⟨k, ρ, ε, l0, h0, rfl, rfl, rfl, rfl, hεk, hεn, haε, hρ0, hρ1, HB, HR⟩ := hrel
    clear hbl hbs hca
    by_cases hk : k = 0
    · subst hk
      have HI : Hid (it f n a = (ρ, ε, true)) := HR.out.symm
      have hstop2 : ¬ (ε : Int) - a < sz (f a) := by omega
      clear HB HR
      go_wp2
      refine bodyPost_ret (v := .tuple #[.agg #[.int .i64 ρ, .int .i64 a, .int .i64 ε], .bool true]) (by simp [results, Tryz.results69, go_sem]) rfl ⟨by rw [HI.out], ?_⟩
      exact (Below.refl _ _).alloc (Nat.le_refl _) _
    · have hgo : (ε : Int) - a < sz (f a) := by omega
      by_cases he : ε = n
      · have HI : Hid (it f n a = (65533, ε, false)) := HR.out.symm.trans (run_stop f n k ρ ε l0 h0 hk (by omega))
        have heq : ((ε : Int) == (n : Int)) = true := by simp; omega
        clear HB HR hk he
        go_wp2
        refine bodyPost_ret (v := .tuple #[.agg #[.int .i64 65533, .int .i64 a, .int .i64 ε], .bool false]) (by simp [results, Tryz.results69, go_sem]) rfl ⟨by rw [HI.out], ?_⟩
        exact (Below.refl _ _).alloc (Nat.le_refl _) _
      · have hlt : ε < n := by omega
        have hce := fun o => cells_alloc HC.out o ε hlt
        obtain ⟨hd0, hd1⟩ := HF.out ε
        have heq : ((ε : Int) == (n : Int)) = false := by simp; omega
        clear he
        by_cases h1 : f ε < l0
        · have HI : Hid (it f n a = (65533, ε, false)) := HR.out.symm.trans (run_stop f n k ρ ε l0 h0 hk (by omega))
          clear HB HR hk
          go_wp2
          refine bodyPost_ret (v := .tuple #[.agg #[.int .i64 65533, .int .i64 a, .int .i64 ε], .bool false]) (by simp [results, Tryz.results69, go_sem]) rfl ⟨by rw [HI.out], ?_⟩
          exact (Below.refl _ _).alloc (Nat.le_refl _) _
        · have h1' : l0 ≤ f ε := by omega
          clear h1
          by_cases h2 : h0 < f ε
          · have HI : Hid (it f n a = (65533, ε, false)) := HR.out.symm.trans (run_stop f n k ρ ε l0 h0 hk (by omega))
            clear HB HR hk
            go_wp2
            refine bodyPost_ret (v := .tuple #[.agg #[.int .i64 65533, .int .i64 a, .int .i64 ε], .bool false]) (by simp [results, Tryz.results69, go_sem]) rfl ⟨by rw [HI.out], ?_⟩
            exact (Below.refl _ _).alloc (Nat.le_refl _) _
          · have h2' : f ε ≤ h0 := by omega
            have HI : Hid (run f n (k - 1) (ρ * 64 + f ε % 64) (ε + 1) 128 191 = it f n a) := (run_go f n k ρ ε l0 h0 hk (by omega)).symm.trans HR.out
            have hρ2 : ρ ≤ 131071 := by have := HB.out; omega
            have HB2 : Hid ((k - 1 = 1 → ρ * 64 + f ε % 64 ≤ 131071) ∧ (k - 1 = 2 → ρ * 64 + f ε % 64 ≤ 2047) ∧ (k - 1 = 3 → ρ * 64 + f ε % 64 ≤ 31)) := by have := HB.out; unfold Hid; omega
            have e63 := u8_and63 (f ε) hd0 (by omega)
            have eor := or_tail ρ (f ε) hρ0 hρ1 hd0
            clear HB HR h2
            go_wp2
            go_round
            case rel => exact ⟨k - 1, ρ * 64 + f ε % 64, ε + 1, 128, 191, rfl, by go_num, rfl, rfl, by omega, by omega, by omega, by omega, by omega, HB2, HI⟩
            case measure => simp [intOf]; omega

/-- The item at a place of a row of bytes. -/
theorem item_any (b off n cap : Nat) (f : Nat → Int) (a : Nat) (w : World) (hc : ∀ i, i < n → w.cell? ⟨b, off + i, none⟩ = some (.int .u8 (f i)))
    (ha : a < n) (hn : n ≤ 9223372036854775807) (hf : ∀ i, 0 ≤ f i ∧ f i ≤ 255) :
    Calls Tryz.prog 69 #[.slice (some ⟨b, off, none⟩) n cap, .int .i64 a] w fun e w' =>
      e = .returned (.tuple #[.agg #[.int .i64 (it f n a).1, .int .i64 a, .int .i64 (it f n a).2.1], .bool (it f n a).2.2]) ∧ Below w.heap.size w w' := by
  by_cases hz : sz (f a) = 0
  · have e : it f n a = (65533, a + 1, false) := by unfold it; rw [if_pos hz]
    rw [e]
    exact item_zero b off n cap f a w hc ha hn hf hz
  · exact item_more b off n cap f a w hc ha hn hf (by omega)
end Go.Proofs.YtlidgjkipbijlaaGreatDoor.utf
end

section
/- Plain mathematics of the document's own way to an item: the bits gathered so far, and how going on behind the first byte keeps them. -/
set_option linter.unusedVariables false
set_option linter.unusedSimpArgs false
namespace Go.Proofs.YtlidgjkipbijlaaGreatDoor.utf

/-- The bits gathered behind j bytes more. -/
def ac (f : Nat → Int) : Nat → Int
  | 0 => hb (f 0)
  | j + 1 => ac f j * 64 + f (j + 1) % 64

theorem ac_le (f : Nat → Int) (h : 0 ≤ f 0) (j : Nat) (hj : j ≤ 3) : 0 ≤ ac f j ∧ ac f j ≤ 33554431 := by
  have h0 := hb_le (f 0) h
  match j, hj with
  | 0, _ => simp [ac]; omega
  | 1, _ => simp [ac]; omega
  | 2, _ => simp [ac]; omega
  | 3, _ => simp [ac]; omega

theorem hb_1 (c : Int) (h : sz c = 1) : hb c = c := by unfold sz at h; unfold hb; revert h; (repeat' split) <;> omega
theorem hb_2 (c : Int) (h : sz c = 2) : hb c = c % 32 := by unfold sz at h; unfold hb; revert h; (repeat' split) <;> omega
theorem hb_3 (c : Int) (h : sz c = 3) : hb c = c % 16 := by unfold sz at h; unfold hb; revert h; (repeat' split) <;> omega
theorem hb_4 (c : Int) (h : sz c = 4) : hb c = c % 8 := by unfold sz at h; unfold hb; revert h; (repeat' split) <;> omega

theorem lob_more (c : Int) (j : Nat) (h : j ≠ 1) : lob c j = 128 := by simp [lob, h]
theorem hib_more (c : Int) (j : Nat) (h : j ≠ 1) : hib c j = 191 := by simp [hib, h]
theorem lob_le (c : Int) (j : Nat) : 0 ≤ lob c j ∧ lob c j ≤ 255 := by have := lo_le c; unfold lob; split <;> omega
theorem hib_le (c : Int) (j : Nat) : 0 ≤ hib c j ∧ hib c j ≤ 255 := by have := hi_le c; unfold hib; split <;> omega

/-- What is left to do at byte j + 1 of an item that asks for S bytes. -/
def left (f : Nat → Int) (n S j : Nat) : Int × Nat × Bool := run f n (S - 1 - j) (ac f j) (j + 1) (lob (f 0) (j + 1)) (hib (f 0) (j + 1))

theorem left_start (f : Nat → Int) (n : Nat) (h : sz (f 0) ≠ 0) : left f n (sz (f 0)) 0 = it f n 0 := by
  unfold left it
  rw [if_neg h, lob_one, hib_one]
  rfl
theorem left_end (f : Nat → Int) (n S j : Nat) (h : j + 1 = S) : left f n S j = (ac f j, S, true) := by
  unfold left
  rw [show S - 1 - j = 0 from by omega, run, h]
theorem left_stop (f : Nat → Int) (n S j : Nat) (h : j + 1 < S) (hc : ¬ (j + 1 < n ∧ lob (f 0) (j + 1) ≤ f (j + 1) ∧ f (j + 1) ≤ hib (f 0) (j + 1))) : left f n S j = (65533, j + 1, false) := by
  unfold left
  exact run_stop _ _ _ _ _ _ _ (by omega) hc
theorem left_go (f : Nat → Int) (n S j : Nat) (h : j + 1 < S) (hc : j + 1 < n ∧ lob (f 0) (j + 1) ≤ f (j + 1) ∧ f (j + 1) ≤ hib (f 0) (j + 1)) : left f n S (j + 1) = left f n S j := by
  unfold left
  rw [run_go _ _ (S - 1 - j) _ _ _ _ (by omega) hc, lob_more _ _ (by omega), hib_more _ _ (by omega), show S - 1 - (j + 1) = S - 1 - j - 1 from by omega]
  rfl
end Go.Proofs.YtlidgjkipbijlaaGreatDoor.utf
end

section
/- What the document's own 'first' answers: the item at the beginning of a row of bytes; nothing that was there changes. -/
set_option linter.unusedVariables false
set_option linter.unusedSimpArgs false
namespace Go.Proofs.YtlidgjkipbijlaaGreatDoor.utf
open Go.RowKit

theorem first_zero (b off n cap : Nat) (f : Nat → Int) (w : World) (hc : ∀ i, i < n → w.cell? ⟨b, off + i, none⟩ = some (.int .u8 (f i)))
    (ha : 0 < n) (hn : n ≤ 9223372036854775807) (hf : ∀ i, 0 ≤ f i ∧ f i ≤ 255) (hz : sz (f 0) = 0) :
    Calls Tryz.prog 37 #[.slice (some ⟨b, off, none⟩) n cap] w fun e w' =>
      e = .returned (.tuple #[.agg #[.int .i64 65533, .int .i64 0, .int .i64 1], .bool false]) ∧ Below w.heap.size w w' := by
  have hca := fun o => cells_alloc hc o 0 ha
  simp only [Nat.add_zero] at hca
  obtain ⟨hc0, hc1⟩ := hf 0
  clear hc hf
  generalize f 0 = c at *
  go_enter Tryz.func37, Tryz.ntmps37
  go_wp2_with (go_at_call 61; refine (rsize_any _ _ hc0 hc1).mono ?_; rintro e w' ⟨rfl, rfl⟩)
  refine bodyPost_ret (v := .tuple #[.agg #[.int .i64 65533, .int .i64 0, .int .i64 1], .bool false]) (by simp [results, Tryz.results37, go_sem]) rfl ⟨rfl, ?_⟩
  exact (Below.refl _ _).alloc (Nat.le_refl _) _

theorem i64_and31 (x : Int) (h0 : 0 ≤ x) (h1 : x ≤ 255) : bits .and .i64 x 31 = x % 32 :=
  bits_mask .i64 63 (by decide) (fun n a b => by rw [IntKind.wrap_i64]; omega) 5 (by decide) x h0 (by omega)
theorem i64_and15 (x : Int) (h0 : 0 ≤ x) (h1 : x ≤ 255) : bits .and .i64 x 15 = x % 16 :=
  bits_mask .i64 63 (by decide) (fun n a b => by rw [IntKind.wrap_i64]; omega) 4 (by decide) x h0 (by omega)
theorem i64_and7 (x : Int) (h0 : 0 ≤ x) (h1 : x ≤ 255) : bits .and .i64 x 7 = x % 8 :=
  bits_mask .i64 63 (by decide) (fun n a b => by rw [IntKind.wrap_i64]; omega) 3 (by decide) x h0 (by omega)

set_option maxHeartbeats 1000000 in
theorem first_more (b off n cap S : Nat) (f : Nat → Int) (w : World) (hc : ∀ i, i < n → w.cell? ⟨b, off + i, none⟩ = some (.int .u8 (f i)))
    (ha : 0 < n) (hn : n ≤ 9223372036854775807) (hcap : n ≤ cap) (hf : ∀ i, 0 ≤ f i ∧ f i ≤ 255) (hS : sz (f 0) = S) (hS1 : 1 ≤ S) :
    Calls Tryz.prog 37 #[.slice (some ⟨b, off, none⟩) n cap] w fun e w' =>
      e = .returned (.tuple #[.agg #[.int .i64 (it f n 0).1, .int .i64 0, .int .i64 (it f n 0).2.1], .bool (it f n 0).2.2]) ∧ Below w.heap.size w w' := by
  have HC : Hid (∀ i, i < n → w.cell? ⟨b, off + i, none⟩ = some (.int .u8 (f i))) := hc
  have HF : Hid (∀ i, 0 ≤ f i ∧ f i ≤ 255) := hf
  have hca := fun o => cells_alloc hc o 0 ha
  simp only [Nat.add_zero] at hca
  obtain ⟨hc0, hc1⟩ := hf 0
  have hS4 : S ≤ 4 := by rw [← hS]; exact sz_le _
  have HZ : Hid (sz (f 0) = S) := hS
  have HSZ := rsize_any (f 0) (w.alloc (.cells #[.int .i64 0, .int .i64 0, .int .i64 0] 30)) hc0 hc1
  rw [hS] at HSZ
  have HL : Hid (left f n S 0 = it f n 0) := by rw [← hS]; exact left_start f n (by omega)
  have hS0 : ((S : Int) == 0) = false := by simp; omega
  clear hc hf hS
  go_enter Tryz.func37, Tryz.ntmps37
  go_wp2_with (go_at_call 61; refine HSZ.mono ?_; rintro e w' ⟨rfl, rfl⟩)
  go_loopw [5] (fun m wr => ∃ j : Nat, wr = w.alloc (.cells #[.int .i64 0, .int .i64 0, .int .i64 0] 30) ∧ m = .int .i64 (j + 1 : Nat) ∧ j + 1 ≤ S ∧ j + 1 ≤ n ∧ Hid (left f n S j = it f n 0)) (fun m _ => 5 - (intOf m).toNat)
  case atStart => exact ⟨0, rfl, rfl, by omega, by omega, HL⟩
  case round =>
    obtain ⟨j, rfl, rfl, hjS, hjn, HJ⟩ := hrel
    by_cases hA : j + 1 = S
    · -- all bytes are there
      have HI : Hid (it f n 0 = (ac f j, S, true)) := HJ.out.symm.trans (left_end f n S j hA)
      clear HJ
      have hS2 : S ≤ n := by omega
      subst hA
      rcases (show j = 0 ∨ j = 1 ∨ j = 2 ∨ j = 3 from by omega) with rfl | rfl | rfl | rfl
      · have hb1 : ac f 0 = f 0 := hb_1 (f 0) HZ.out
        rw [hb1] at HI
        clear HSZ HL HZ hb1
        go_wp2
        all_goals
          refine wp_loop_rounds 1 ?_
          rw [rounds_succ]
          go_wp2
          refine bodyPost_ret (v := .tuple #[.agg #[.int .i64 (f 0), .int .i64 0, .int .i64 1], .bool true]) (by simp [results, Tryz.results37, go_sem]) rfl ⟨by rw [HI.out]; rfl, ?_⟩
          exact (Below.refl _ _).alloc (Nat.le_refl _) _
      · have e1 := i64_and31 (f 0) hc0 hc1
        have HB1 : Hid (f 0 % 32 = ac f 0) := (hb_2 (f 0) HZ.out).symm
        clear HSZ HL HZ
        go_wp2
        go_loop [9, 72] (fun r i => ∃ k : Nat, k ≤ 1 ∧ i = .int .i64 k ∧ r = .int .i64 (ac f k)) (fun _ i => 1 - (intOf i).toNat)
        case atStart => exact ⟨0, by omega, rfl, by rw [HB1.out]⟩
        case round =>
          obtain ⟨k, hk, rfl, rfl⟩ := hrel
          obtain ⟨ha0, ha1⟩ := ac_le f hc0 k (by omega)
          by_cases hkj : k < 1
          · have hce : ∀ o, (w.alloc o).cell? ⟨b, off + 1 + k, none⟩ = some (.int .u8 (f (k + 1))) := fun o => by
              have := cells_alloc HC.out o (k + 1) (by omega)
              rw [show off + 1 + k = off + (k + 1) from by omega]; exact this
            obtain ⟨hd0, hd1⟩ := HF.out (k + 1)
            have e63 := u8_and63 (f (k + 1)) hd0 (by omega)
            go_wp2
            go_round
            case rel => exact ⟨k + 1, by omega, by go_num, rfl⟩
            case measure => simp [intOf]; omega
          · obtain rfl : k = 1 := by omega
            go_wp2
            refine bodyPost_ret (v := .tuple #[.agg #[.int .i64 (ac f 1), .int .i64 0, .int .i64 2], .bool true]) (by simp [results, Tryz.results37, go_sem]) rfl ⟨by rw [HI.out]; rfl, ?_⟩
            exact (Below.refl _ _).alloc (Nat.le_refl _) _
      · have e1 := i64_and15 (f 0) hc0 hc1
        have HB1 : Hid (f 0 % 16 = ac f 0) := (hb_3 (f 0) HZ.out).symm
        clear HSZ HL HZ
        go_wp2
        go_loop [9, 72] (fun r i => ∃ k : Nat, k ≤ 2 ∧ i = .int .i64 k ∧ r = .int .i64 (ac f k)) (fun _ i => 2 - (intOf i).toNat)
        case atStart => exact ⟨0, by omega, rfl, by rw [HB1.out]⟩
        case round =>
          obtain ⟨k, hk, rfl, rfl⟩ := hrel
          obtain ⟨ha0, ha1⟩ := ac_le f hc0 k (by omega)
          by_cases hkj : k < 2
          · have hce : ∀ o, (w.alloc o).cell? ⟨b, off + 1 + k, none⟩ = some (.int .u8 (f (k + 1))) := fun o => by
              have := cells_alloc HC.out o (k + 1) (by omega)
              rw [show off + 1 + k = off + (k + 1) from by omega]; exact this
            obtain ⟨hd0, hd1⟩ := HF.out (k + 1)
            have e63 := u8_and63 (f (k + 1)) hd0 (by omega)
            go_wp2
            go_round
            case rel => exact ⟨k + 1, by omega, by go_num, rfl⟩
            case measure => simp [intOf]; omega
          · obtain rfl : k = 2 := by omega
            go_wp2
            refine bodyPost_ret (v := .tuple #[.agg #[.int .i64 (ac f 2), .int .i64 0, .int .i64 3], .bool true]) (by simp [results, Tryz.results37, go_sem]) rfl ⟨by rw [HI.out]; rfl, ?_⟩
            exact (Below.refl _ _).alloc (Nat.le_refl _) _
      · have e1 := i64_and7 (f 0) hc0 hc1
        have HB1 : Hid (f 0 % 8 = ac f 0) := (hb_4 (f 0) HZ.out).symm
        clear HSZ HL HZ
        go_wp2
        go_loop [9, 72] (fun r i => ∃ k : Nat, k ≤ 3 ∧ i = .int .i64 k ∧ r = .int .i64 (ac f k)) (fun _ i => 3 - (intOf i).toNat)
        case atStart => exact ⟨0, by omega, rfl, by rw [HB1.out]⟩
        case round =>
          obtain ⟨k, hk, rfl, rfl⟩ := hrel
          obtain ⟨ha0, ha1⟩ := ac_le f hc0 k (by omega)
          by_cases hkj : k < 3
          · have hce : ∀ o, (w.alloc o).cell? ⟨b, off + 1 + k, none⟩ = some (.int .u8 (f (k + 1))) := fun o => by
              have := cells_alloc HC.out o (k + 1) (by omega)
              rw [show off + 1 + k = off + (k + 1) from by omega]; exact this
            obtain ⟨hd0, hd1⟩ := HF.out (k + 1)
            have e63 := u8_and63 (f (k + 1)) hd0 (by omega)
            go_wp2
            go_round
            case rel => exact ⟨k + 1, by omega, by go_num, rfl⟩
            case measure => simp [intOf]; omega
          · obtain rfl : k = 3 := by omega
            go_wp2
            refine bodyPost_ret (v := .tuple #[.agg #[.int .i64 (ac f 3), .int .i64 0, .int .i64 4], .bool true]) (by simp [results, Tryz.results37, go_sem]) rfl ⟨by rw [HI.out]; rfl, ?_⟩
            exact (Below.refl _ _).alloc (Nat.le_refl _) _
    · have hjS2 : j + 1 < S := by omega
      clear hA
      by_cases hB : j + 1 < n
      · have hB' : ((j + 1 : Nat) : Int) < n := by omega
        have hce := fun o => cells_alloc HC.out o (j + 1) hB
        obtain ⟨hd0, hd1⟩ := HF.out (j + 1)
        have BND := rbounds_any (f 0) (j + 1) (w.alloc (.cells #[.int .i64 0, .int .i64 0, .int .i64 0] 30)) hc0 hc1 (by omega) (by rw [HZ.out]; omega)
        have hl := lob_le (f 0) (j + 1)
        have hh := hib_le (f 0) (j + 1)
        by_cases h1 : f (j + 1) < lob (f 0) (j + 1)
        · have HI : Hid (it f n 0 = (65533, j + 1, false)) := HJ.out.symm.trans (left_stop f n S j hjS2 (by omega))
          clear HJ
          go_wp2_with (go_at_call 62; refine BND.mono ?_; rintro e w' ⟨rfl, rfl⟩)
          refine bodyPost_ret (v := .tuple #[.agg #[.int .i64 65533, .int .i64 0, .int .i64 (j + 1 : Nat)], .bool false]) (by simp [results, Tryz.results37, go_sem]) rfl ⟨by rw [HI.out], ?_⟩
          exact (Below.refl _ _).alloc (Nat.le_refl _) _
        · have h1' : lob (f 0) (j + 1) ≤ f (j + 1) := by omega
          clear h1
          by_cases h2 : hib (f 0) (j + 1) < f (j + 1)
          · have HI : Hid (it f n 0 = (65533, j + 1, false)) := HJ.out.symm.trans (left_stop f n S j hjS2 (by omega))
            clear HJ
            go_wp2_with (go_at_call 62; refine BND.mono ?_; rintro e w' ⟨rfl, rfl⟩)
            refine bodyPost_ret (v := .tuple #[.agg #[.int .i64 65533, .int .i64 0, .int .i64 (j + 1 : Nat)], .bool false]) (by simp [results, Tryz.results37, go_sem]) rfl ⟨by rw [HI.out], ?_⟩
            exact (Below.refl _ _).alloc (Nat.le_refl _) _
          · have h2' : f (j + 1) ≤ hib (f 0) (j + 1) := by omega
            have HI : Hid (left f n S (j + 1) = it f n 0) := (left_go f n S j hjS2 (by omega)).trans HJ.out
            clear HJ h2
            go_wp2_with (go_at_call 62; refine BND.mono ?_; rintro e w' ⟨rfl, rfl⟩)
            go_roundw
            case rel => exact ⟨j + 1, by trivial, by go_num, by omega, by omega, HI⟩
            case measure => simp [intOf]; omega
      · have HI : Hid (it f n 0 = (65533, j + 1, false)) := HJ.out.symm.trans (left_stop f n S j hjS2 (by omega))
        clear HJ
        go_wp2
        refine bodyPost_ret (v := .tuple #[.agg #[.int .i64 65533, .int .i64 0, .int .i64 (j + 1 : Nat)], .bool false]) (by simp [results, Tryz.results37, go_sem]) rfl ⟨by rw [HI.out], ?_⟩
        exact (Below.refl _ _).alloc (Nat.le_refl _) _

/-- The item at the beginning of a row of bytes, by the document's own way. -/
theorem first_any (b off n cap : Nat) (f : Nat → Int) (w : World) (hc : ∀ i, i < n → w.cell? ⟨b, off + i, none⟩ = some (.int .u8 (f i)))
    (ha : 0 < n) (hn : n ≤ 9223372036854775807) (hcap : n ≤ cap) (hf : ∀ i, 0 ≤ f i ∧ f i ≤ 255) :
    Calls Tryz.prog 37 #[.slice (some ⟨b, off, none⟩) n cap] w fun e w' =>
      e = .returned (.tuple #[.agg #[.int .i64 (it f n 0).1, .int .i64 0, .int .i64 (it f n 0).2.1], .bool (it f n 0).2.2]) ∧ Below w.heap.size w w' := by
  by_cases hz : sz (f 0) = 0
  · have e : it f n 0 = (65533, 0 + 1, false) := by unfold it; rw [if_pos hz]
    rw [e]
    exact first_zero b off n cap f w hc ha hn hf hz
  · exact first_more b off n cap (sz (f 0)) f w hc ha hn hcap hf rfl (by omega)
end Go.Proofs.YtlidgjkipbijlaaGreatDoor.utf
end

section
/- What utf.Decode and utf.Valid answer of a row of bytes: its items in a new row, whether all are well-formed; nothing that was there changes. -/
set_option linter.unusedVariables false
set_option linter.unusedSimpArgs false
namespace Go.Proofs.YtlidgjkipbijlaaGreatDoor.utf
open Go.RowKit

theorem infoItem : (Tryz.prog.info? 30).map (fun i => (i.zero, i.size, i.bytes)) = some (some (.agg #[.int .i64 0, .int .i64 0, .int .i64 0]), 3, 24) := by kernel_rfl

theorem own_below {w w' : World} {B e size n : Nat} {v : Value} {xs : List Value} (h : w.ownsRow B e size v n xs) (hb : Below w.heap.size w w') : w'.ownsRow B e size v n xs := by
  refine ⟨h.1, ?_⟩
  rcases h.2 with hn | ⟨g, cap, cur, rfl, hg, hgg, rest⟩
  · exact .inl hn
  · exact .inr ⟨g, cap, cur, rfl, hg, by rw [hb.block g (Array.getElem?_eq_some_iff.1 hgg).1]; exact hgg, rest⟩

/-- The value is a row of n bytes: byte i is f i. -/
def IsB (w : World) (ao : Option Addr) (n : Nat) (f : Nat → Int) : Prop :=
  n = 0 ∨ ∃ b off, ao = some ⟨b, off, none⟩ ∧ ∀ i, i < n → w.cell? ⟨b, off + i, none⟩ = some (.int .u8 (f i))
theorem IsB.below {w w' : World} {ao : Option Addr} {n : Nat} {f : Nat → Int} (h : IsB w ao n f) (hb : Below w.heap.size w w') : IsB w' ao n f := by
  rcases h with h | ⟨b, off, rfl, h⟩
  · exact .inl h
  · exact .inr ⟨b, off, rfl, fun i hi => (hb.cell (World.block_lt_of_cell? w _ (h i hi))).trans (h i hi)⟩

/-- The cells of items. -/
def flat (l : List (Int × Nat × Nat)) : List Value := l.flatMap fun x => [.int .i64 x.1, .int .i64 x.2.1, .int .i64 x.2.2]
theorem flat_append (l r : List (Int × Nat × Nat)) : flat (l ++ r) = flat l ++ flat r := by simp [flat]
theorem flat_one (r : Int) (a e : Nat) : flat [(r, a, e)] = [.int .i64 r, .int .i64 a, .int .i64 e] := by simp [flat]
theorem flat_length (l : List (Int × Nat × Nat)) : (flat l).length = l.length * 3 := by
  induction l with
  | nil => rfl
  | cons x l ih => rw [show x :: l = [x] ++ l from rfl, flat_append, List.length_append, ih]; simp [flat]; omega

theorem three_new (w : World) (o : Obj) (x y z : Value) : ∀ (j : Nat) (u : Value), [x, y, z][j]? = some u → ((w.alloc o).alloc (Obj.cells #[x, y, z] 30)).cell? ((⟨w.heap.size + 1, 0, none⟩ : Addr).add j) = some u := by
  intro j u hj
  match j, hj with
  | 0, hj => simp at hj; subst hj; simp [Addr.add]
  | 1, hj => simp at hj; subst hj; simp [Addr.add]
  | 2, hj => simp at hj; subst hj; simp [Addr.add]
  | k + 3, hj => simp at hj

theorem decode_none (ao : Option Addr) (cap : Nat) (w : World) :
    Calls Tryz.prog 49 #[.slice ao 0 cap] w fun e w' => e = .returned (.slice none 0 0) ∧ w' = w := by
  go_enter Tryz.func49, Tryz.ntmps49
  go_wp2
  refine wp_loop_rounds 1 ?_
  rw [rounds_succ]
  go_wp2
  go_ret
  exact ⟨rfl, rfl⟩

set_option maxHeartbeats 400000 in
theorem decode_some (b off n cap : Nat) (f : Nat → Int) (w : World) (hc : ∀ i, i < n → w.cell? ⟨b, off + i, none⟩ = some (.int .u8 (f i)))
    (hn : n * 24 ≤ 140737488355328) (hf : ∀ i, 0 ≤ f i ∧ f i ≤ 255) :
    Calls Tryz.prog 49 #[.slice (some ⟨b, off, none⟩) n cap] w fun e w' => ∃ v, e = .returned v ∧ w'.ownsRow w.heap.size 30 3 v (items f n 0).length (flat (items f n 0)) ∧ Below w.heap.size w w' := by
  obtain ⟨i0, hi, hz0, hz1, hz2⟩ := info_parts infoItem
  have HC : Hid (∀ i, i < n → w.cell? ⟨b, off + i, none⟩ = some (.int .u8 (f i))) := hc
  have HF : Hid (∀ i, 0 ≤ f i ∧ f i ≤ 255) := hf
  clear hc hf
  go_enter Tryz.func49, Tryz.ntmps49
  go_wp2
  go_loopw [3, 4] (fun v i wr => ∃ (a : Nat) (done : List (Int × Nat × Nat)), a ≤ n ∧ i = .int .i64 a ∧ done.length ≤ a ∧ wr.ownsRow w.heap.size 30 3 v done.length (flat done) ∧ Hid (done ++ items f n a = items f n 0) ∧ Below w.heap.size w wr)
    (fun _ i _ => n - (intOf i).toNat)
  case atStart => exact ⟨0, [], Nat.zero_le _, rfl, Nat.le_refl _, World.ownsRow_nil _ _ _ _, rfl, Below.refl _ _⟩
  case round =>
    obtain ⟨a, done, han, rfl, hda, hown, HD, hbel⟩ := hrel
    by_cases hlt : a < n
    · have HCr : Hid (∀ i, i < n → wr.cell? ⟨b, off + i, none⟩ = some (.int .u8 (f i))) := fun i hi => (hbel.cell (World.block_lt_of_cell? w _ (HC.out i hi))).trans (HC.out i hi)
      go_wp2_with fail
      refine (item_any b off n cap f a _ HCr.out hlt (by omega) HF.out).mono ?_
      rintro e w1 ⟨rfl, hb1⟩
      have hie := it_end f n a hlt
      have HD2 : Hid ((done ++ [((it f n a).1, a, (it f n a).2.1)]) ++ items f n (it f n a).2.1 = items f n 0) := by
        rw [List.append_assoc]; rw [items_step f n a hlt] at HD; exact HD
      have hown1 := own_below hown hb1
      have hs1 := hbel.size
      have hs2 := hb1.size
      have HV : Hid (some w1.heap.size ≠ u3.ownBlock) := fun e => by have := (hown.lt _ e.symm).2; omega
      have HW : Hid (∀ k, u3.ownBlock = some k → w.heap.size ≤ k) := fun k e => (hown.lt _ e).1
      clear HD HCr hown
      generalize (it f n a).2.2 = K at *
      generalize (it f n a).2.1 = E at *
      generalize (it f n a).1 = R at *
      go_wp2_with (at_builtin; refine wpList_append_own _ rfl _ _ 28 rfl w.heap.size 30 i0 (.agg #[.int .i64 0, .int .i64 0, .int .i64 0]) 3 24 Tryz.underlying28 hi hz0 hz1 hz2 rfl (by decide) _ _ _ rfl ((hown1.alloc _).alloc _) ⟨w1.heap.size + 1, 0, none⟩ 1 1 [.int .i64 R, .int .i64 a, .int .i64 E] rfl rfl ?c1 ?c2 ?c3 ?c4 ?c5 ?_)
      case c1 => exact three_new w1 _ _ _ _
      case c2 => intro u hu; simp at hu; rcases hu with rfl | rfl | rfl <;> rfl
      case c3 => unfold maxLen; omega
      case c4 => omega
      case c5 => simp; omega
      · intro v' w2 hown2 hgrow _
        have hx2 : w2.cell? ⟨w1.heap.size, 2, none⟩ = some (.int .i64 E) := hgrow.cell (by simp) HV.out
        have R2 := Below.grown (((hbel.trans (hb1.mono hs1)).alloc (by omega) (.cells #[.int .i64 R, .int .i64 a, .int .i64 E] 30)).alloc (by simp; omega) (.cells #[.int .i64 R, .int .i64 a, .int .i64 E] 30)) hgrow (by simp; omega) HW.out
        have R1 : w2.ownsRow w.heap.size 30 3 v' (done ++ [(R, a, E)]).length (flat (done ++ [(R, a, E)])) := by
          rw [flat_append, flat_one, List.length_append]; exact hown2
        clear hown2 hgrow hown1 hb1 hbel
        go_wp2
        go_roundw
        case rel => exact ⟨E, done ++ [(R, a, E)], by omega, rfl, by simp; omega, R1, HD2, R2⟩
        case measure => simp [intOf]; omega
    · go_wp2
      go_ret
      have : a = n := by omega
      subst this
      have e := HD.out
      rw [items_end f a a (Nat.le_refl _), List.append_nil] at e
      rw [← e]
      exact ⟨_, rfl, hown, hbel⟩

/-- Decode at whatever row of bytes. -/
theorem decode_any (ao : Option Addr) (n cap : Nat) (f : Nat → Int) (w : World) (hB : IsB w ao n f) (hn : n * 24 ≤ 140737488355328) (hf : ∀ i, 0 ≤ f i ∧ f i ≤ 255) :
    Calls Tryz.prog 49 #[.slice ao n cap] w fun e w' => ∃ v, e = .returned v ∧ w'.ownsRow w.heap.size 30 3 v (items f n 0).length (flat (items f n 0)) ∧ Below w.heap.size w w' := by
  rcases hB with rfl | ⟨b, off, rfl, hc⟩
  · refine (decode_none ao cap w).mono ?_
    rintro e w' ⟨rfl, rfl⟩
    exact ⟨_, rfl, by rw [items_end f 0 0 (Nat.le_refl _)]; exact World.ownsRow_nil _ _ _ _, Below.refl _ _⟩
  · exact decode_some b off n cap f w hc hn hf

end Go.Proofs.YtlidgjkipbijlaaGreatDoor.utf
end

section
/- What the document's Decode and Valid answer of a row of bytes: the same items, and the same word on whether they are well-formed. -/
set_option linter.unusedVariables false
set_option linter.unusedSimpArgs false
namespace Go.Proofs.YtlidgjkipbijlaaGreatDoor.utf
open Go.RowKit

/-- first at the rest of a row. -/
theorem first_at (b off n cap : Nat) (f : Nat → Int) (a : Nat) (w : World) (hc : ∀ i, i < n → w.cell? ⟨b, off + i, none⟩ = some (.int .u8 (f i)))
    (ha : a < n) (hn : n ≤ 9223372036854775807) (hcap : n ≤ cap) (hf : ∀ i, 0 ≤ f i ∧ f i ≤ 255) :
    Calls Tryz.prog 37 #[.slice (some ⟨b, off + a, none⟩) (n - a) (cap - a)] w fun e w' =>
      e = .returned (.tuple #[.agg #[.int .i64 (it f n a).1, .int .i64 0, .int .i64 ((it f n a).2.1 - a : Nat)], .bool (it f n a).2.2]) ∧ Below w.heap.size w w' := by
  have h := first_any b (off + a) (n - a) (cap - a) (fun i => f (a + i)) w (fun i hi => by rw [Nat.add_assoc]; exact hc (a + i) (by omega)) (by omega) (by omega) (by omega) (fun i => hf (a + i))
  rw [it_shift, show a + (n - a) = n from by omega] at h
  exact h

theorem rdecode_none (ao : Option Addr) (cap : Nat) (w : World) :
    Calls Tryz.prog 23 #[.slice ao 0 cap] w fun e w' => e = .returned (.slice none 0 0) ∧ w' = w := by
  go_enter Tryz.func23, Tryz.ntmps23
  go_wp2
  refine wp_loop_rounds 1 ?_
  rw [rounds_succ]
  go_wp2
  go_ret
  exact ⟨rfl, rfl⟩

set_option maxHeartbeats 400000 in
theorem rdecode_some (b off n cap : Nat) (f : Nat → Int) (w : World) (hc : ∀ i, i < n → w.cell? ⟨b, off + i, none⟩ = some (.int .u8 (f i)))
    (hn : n * 24 ≤ 140737488355328) (hcap : n ≤ cap) (hcm : cap ≤ 9223372036854775807) (hf : ∀ i, 0 ≤ f i ∧ f i ≤ 255) :
    Calls Tryz.prog 23 #[.slice (some ⟨b, off, none⟩) n cap] w fun e w' => ∃ v, e = .returned v ∧ w'.ownsRow w.heap.size 30 3 v (items f n 0).length (flat (items f n 0)) ∧ Below w.heap.size w w' := by
  obtain ⟨i0, hi, hz0, hz1, hz2⟩ := info_parts infoItem
  have HC : Hid (∀ i, i < n → w.cell? ⟨b, off + i, none⟩ = some (.int .u8 (f i))) := hc
  have HF : Hid (∀ i, 0 ≤ f i ∧ f i ≤ 255) := hf
  clear hc hf
  go_enter Tryz.func23, Tryz.ntmps23
  go_wp2
  go_loopw [3, 4] (fun v i wr => ∃ (a : Nat) (done : List (Int × Nat × Nat)), a ≤ n ∧ i = .int .i64 a ∧ done.length ≤ a ∧ wr.ownsRow w.heap.size 30 3 v done.length (flat done) ∧ Hid (done ++ items f n a = items f n 0) ∧ Below w.heap.size w wr)
    (fun _ i _ => n - (intOf i).toNat)
  case atStart => exact ⟨0, [], Nat.zero_le _, rfl, Nat.le_refl _, World.ownsRow_nil _ _ _ _, rfl, Below.refl _ _⟩
  case round =>
    obtain ⟨a, done, han, rfl, hda, hown, HD, hbel⟩ := hrel
    by_cases hlt : a < n
    · have HCr : Hid (∀ i, i < n → wr.cell? ⟨b, off + i, none⟩ = some (.int .u8 (f i))) := fun i hi => (hbel.cell (World.block_lt_of_cell? w _ (HC.out i hi))).trans (HC.out i hi)
      have FA := first_at b off n cap f a wr HCr.out hlt (by omega) hcap HF.out
      have hie := it_end f n a hlt
      have HD2 : Hid ((done ++ [((it f n a).1, a, (it f n a).2.1)]) ++ items f n (it f n a).2.1 = items f n 0) := by
        rw [List.append_assoc]; rw [items_step f n a hlt] at HD; exact HD
      obtain ⟨D, hD⟩ : ∃ D, (it f n a).2.1 = a + D := ⟨(it f n a).2.1 - a, by omega⟩
      rw [hD] at FA hie HD2
      rw [show a + D - a = D from by omega] at FA
      clear HD hD
      generalize (it f n a).2.2 = K at *
      generalize (it f n a).1 = R at *
      go_wp2_with fail
      refine FA.mono ?_
      rintro e w1 ⟨rfl, hb1⟩
      have hown1 := own_below hown hb1
      have hs1 := hbel.size
      have hs2 := hb1.size
      have HV : Hid (some w1.heap.size ≠ u3.ownBlock) := fun e => by have := (hown.lt _ e.symm).2; omega
      have HW : Hid (∀ k, u3.ownBlock = some k → w.heap.size ≤ k) := fun k e => (hown.lt _ e).1
      clear HCr hown FA
      go_wp2_with (at_builtin; refine wpList_append_own _ rfl _ _ 28 rfl w.heap.size 30 i0 (.agg #[.int .i64 0, .int .i64 0, .int .i64 0]) 3 24 Tryz.underlying28 hi hz0 hz1 hz2 rfl (by decide) _ _ _ rfl ((hown1.alloc _).alloc _) ⟨w1.heap.size + 1, 0, none⟩ 1 1 [.int .i64 R, .int .i64 a, .int .i64 ((a : Int) + (D : Int))] rfl rfl ?c1 ?c2 ?c3 ?c4 ?c5 ?_)
      case c1 => exact three_new w1 _ _ _ _
      case c2 => intro u hu; simp at hu; rcases hu with rfl | rfl | rfl <;> rfl
      case c3 => unfold maxLen; omega
      case c4 => omega
      case c5 => simp; omega
      · intro v' w2 hown2 hgrow _
        have hx2 : w2.cell? ⟨w1.heap.size, 2, none⟩ = some (.int .i64 ((a : Int) + (D : Int))) := hgrow.cell (by simp) HV.out
        have R2 := Below.grown (((hbel.trans (hb1.mono hs1)).alloc (by omega) (.cells #[.int .i64 R, .int .i64 a, .int .i64 ((a : Int) + (D : Int))] 30)).alloc (by simp; omega) (.cells #[.int .i64 R, .int .i64 a, .int .i64 ((a : Int) + (D : Int))] 30)) hgrow (by simp; omega) HW.out
        have R1 : w2.ownsRow w.heap.size 30 3 v' (done ++ [(R, a, a + D)]).length (flat (done ++ [(R, a, a + D)])) := by
          rw [flat_append, flat_one, List.length_append, Int.natCast_add]; exact hown2
        clear hown2 hgrow hown1 hb1 hbel
        go_wp2
        go_roundw
        case rel => exact ⟨a + D, done ++ [(R, a, a + D)], by omega, by go_num, by simp; omega, R1, HD2, R2⟩
        case measure => simp [intOf]; omega
    · go_wp2
      go_ret
      have : a = n := by omega
      subst this
      have e := HD.out
      rw [items_end f a a (Nat.le_refl _), List.append_nil] at e
      rw [← e]
      exact ⟨_, rfl, hown, hbel⟩

theorem rdecode_any (ao : Option Addr) (n cap : Nat) (f : Nat → Int) (w : World) (hB : IsB w ao n f) (hn : n * 24 ≤ 140737488355328) (hcap : n ≤ cap) (hcm : cap ≤ 9223372036854775807) (hf : ∀ i, 0 ≤ f i ∧ f i ≤ 255) :
    Calls Tryz.prog 23 #[.slice ao n cap] w fun e w' => ∃ v, e = .returned v ∧ w'.ownsRow w.heap.size 30 3 v (items f n 0).length (flat (items f n 0)) ∧ Below w.heap.size w w' := by
  rcases hB with rfl | ⟨b, off, rfl, hc⟩
  · refine (rdecode_none ao cap w).mono ?_
    rintro e w' ⟨rfl, rfl⟩
    exact ⟨_, rfl, by rw [items_end f 0 0 (Nat.le_refl _)]; exact World.ownsRow_nil _ _ _ _, Below.refl _ _⟩
  · exact rdecode_some b off n cap f w hc hn hcap hcm hf

end Go.Proofs.YtlidgjkipbijlaaGreatDoor.utf
end
