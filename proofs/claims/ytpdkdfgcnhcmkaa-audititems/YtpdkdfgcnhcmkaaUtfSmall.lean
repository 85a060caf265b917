/- What the small functions of utf and of the document's answer return: tailOf, sizeOf, headOf, secondBounds, isTail, Size, bounds; none of them changes memory. -/
import Derived.Test.YtpdkdfgcnhcmkaaProg
import Derived.Test.YtpdkdfgcnhcmkaaUtfPure
import Derived.WalkKit
import Derived.WalkSpells
import Derived.WalkLawsBesides
set_option linter.unusedVariables false
set_option linter.unusedSimpArgs false
namespace Go.Proofs.Ytpdkdfgcnhcmkaa.utf
open Go.RowKit

theorem ret_int {k : IntKind} {a b : Int} (h : a = b) : Ending.returned (.int k a) = .returned (.int k b) := by rw [h]
theorem ret_two {k k' : IntKind} {a b a' b' : Int} (h : a = b) (h' : a' = b') : Ending.returned (.tuple #[.int k a, .int k' a']) = .returned (.tuple #[.int k b, .int k' b']) := by rw [h, h']
theorem ret_iib {k k' : IntKind} {a b a' b' : Int} {c d : Bool} (h : a = b) (h' : a' = b') (hc : c = d) : Ending.returned (.tuple #[.int k a, .int k' a', .bool c]) = .returned (.tuple #[.int k b, .int k' b', .bool d]) := by rw [h, h', hc]
theorem ret_bool {a b : Bool} (h : a = b) : Ending.returned (.bool a) = .returned (.bool b) := by rw [h]
theorem i64_and63 (x : Int) (h0 : 0 ≤ x) (h1 : x < 9223372036854775808) : bits .and .i64 x 63 = x % 64 :=
  bits_mask .i64 63 (by decide) (fun n a b => by rw [IntKind.wrap_i64]; omega) 6 (by decide) x h0 (by simpa using h1)
theorem tail_eq (r : Int) (h0 : 0 ≤ r) (h1 : r ≤ 1114111) : bits BinOp.or IntKind.u8 128 (bits BinOp.and IntKind.i64 r 63 % 256) = 128 + r % 64 := by
  rw [i64_and63 r h0 (by omega), u8_or128 _ (by omega) (by omega)]
  omega

/-- How many bytes a code point has; 0: none. -/
def len (r : Int) : Int := if r < 0 ∨ 1114111 < r ∨ (55296 ≤ r ∧ r ≤ 57343) then 0 else if r ≤ 127 then 1 else if r ≤ 2047 then 2 else if r ≤ 65535 then 3 else 4

theorem head_any (c : Int) (w : World) (h0 : 0 ≤ c) (h1 : c ≤ 255) :
    Calls Try.prog 30 #[.int .u8 c] w fun e w' => e = .returned (.tuple #[.int .i64 (sz c), .int .i64 (hb c)]) ∧ w' = w := by
  have e31 := u8_and31 c h0 (by omega)
  have e15 := u8_and15 c h0 (by omega)
  have e7 := u8_and7 c h0 (by omega)
  go_enter Try.func30, Try.ntmps30
  go_wp2
  all_goals go_ret2
  all_goals exact ⟨ret_two (by unfold sz; (repeat' split) <;> omega) (by unfold hb; (repeat' split) <;> omega), rfl⟩

theorem second_any (c : Int) (w : World) (h0 : 0 ≤ c) (h1 : c ≤ 255) :
    Calls Try.prog 31 #[.int .u8 c] w fun e w' => e = .returned (.tuple #[.int .u8 (lo c), .int .u8 (hi c)]) ∧ w' = w := by
  go_enter Try.func31, Try.ntmps31
  go_wp2
  all_goals go_ret2
  all_goals exact ⟨ret_two (by unfold lo; (repeat' split) <;> simp_all) (by unfold hi; (repeat' split) <;> simp_all), rfl⟩

theorem rsize_any (c : Int) (w : World) (h0 : 0 ≤ c) (h1 : c ≤ 255) :
    Calls Try.prog 26 #[.int .u8 c] w fun e w' => e = .returned (.int .i64 (sz c)) ∧ w' = w := by
  go_enter Try.func26, Try.ntmps26
  go_wp2
  all_goals (go_ret; exact ⟨ret_int (by unfold sz; (repeat' split) <;> omega), rfl⟩)

/-- What the document's bounds answer at a place behind the first byte. -/
theorem rbounds_one (c : Int) (w : World) (h0 : 0 ≤ c) (h1 : c ≤ 255) (hz : 1 < sz c) :
    Calls Try.prog 27 #[.int .u8 c, .int .i64 1] w fun e w' => e = .returned (.tuple #[.int .u8 (lo c), .int .u8 (hi c), .bool true]) ∧ w' = w := by
  have hs := sz_le c
  go_enter Try.func27, Try.ntmps27
  go_wp2_with (go_at_call 26; refine (rsize_any _ _ h0 h1).mono ?_; rintro e w' ⟨rfl, rfl⟩)
  all_goals go_ret3
  all_goals exact ⟨ret_iib (by unfold lo; (repeat' split) <;> simp_all) (by unfold hi; (repeat' split) <;> simp_all) rfl, rfl⟩
theorem rbounds_more (c : Int) (a : Int) (w : World) (h0 : 0 ≤ c) (h1 : c ≤ 255) (ha : 2 ≤ a) (hz : a < sz c) :
    Calls Try.prog 27 #[.int .u8 c, .int .i64 a] w fun e w' => e = .returned (.tuple #[.int .u8 128, .int .u8 191, .bool true]) ∧ w' = w := by
  have hs := sz_le c
  have hs1 : (a == 1) = false := by simp; omega
  go_enter Try.func27, Try.ntmps27
  go_wp2_with (go_at_call 26; refine (rsize_any _ _ h0 h1).mono ?_; rintro e w' ⟨rfl, rfl⟩)
  all_goals go_ret3
  all_goals exact ⟨rfl, rfl⟩
theorem rbounds_any (c : Int) (a : Nat) (w : World) (h0 : 0 ≤ c) (h1 : c ≤ 255) (ha : 1 ≤ a) (hz : a < sz c) :
    Calls Try.prog 27 #[.int .u8 c, .int .i64 a] w fun e w' => e = .returned (.tuple #[.int .u8 (lob c a), .int .u8 (hib c a), .bool true]) ∧ w' = w := by
  by_cases e : a = 1
  · subst e
    rw [lob_one, hib_one]
    exact rbounds_one c w h0 h1 hz
  · have e1 : lob c a = 128 := by simp [lob, e]
    have e2 : hib c a = 191 := by simp [hib, e]
    rw [e1, e2]
    exact rbounds_more c a w h0 h1 (by omega) (by omega)
end Go.Proofs.Ytpdkdfgcnhcmkaa.utf
