/- What lines.digitOf, lines.Hex and the document's Hex answer of any string: the same number, or none. -/
import Derived.Test.YtnpnmhjhohhnjaaDoorProg
import Derived.WalkKit
import Derived.WalkSpells
import Derived.WalkLawsBesides
import Derived.Laws.RangeAny
import Derived.Laws.BitsLemmas
set_option linter.unusedVariables false
set_option linter.unusedSimpArgs false
namespace Go.Proofs.YtnpnmhjhohhnjaaDoor.lin
open Go.RowKit

theorem ret_ib {k : IntKind} {a b : Int} {c d : Bool} (h : a = b) (h' : c = d) : Ending.returned (.tuple #[.int k a, .bool c]) = .returned (.tuple #[.int k b, .bool d]) := by rw [h, h']

/-- A digit's value; whether a code point is a digit. -/
def dv (c : Int) : Int := if 48 ≤ c ∧ c ≤ 57 then c - 48 else if 65 ≤ c ∧ c ≤ 70 then c - 55 else if 97 ≤ c ∧ c ≤ 102 then c - 87 else 0
def dok (c : Int) : Bool := decide (48 ≤ c ∧ c ≤ 57) || decide (65 ≤ c ∧ c ≤ 70) || decide (97 ≤ c ∧ c ≤ 102)
theorem dv_le (c : Int) : 0 ≤ dv c ∧ dv c ≤ 15 := by unfold dv; (repeat' split) <;> omega
theorem dok_iff (c : Int) : dok c = true ↔ (48 ≤ c ∧ c ≤ 57) ∨ (65 ≤ c ∧ c ≤ 70) ∨ (97 ≤ c ∧ c ≤ 102) := by unfold dok; simp [or_assoc]

/-- The byte at a place of a string. -/
def at8 (s : ByteArray) (p : Nat) : Int := if h : p < s.size then ((s[p]'h).toNat : Int) else 0
theorem at8_eq (s : ByteArray) (p : Nat) (h : p < s.size) : at8 s p = ((s[p]'h).toNat : Int) := by simp [at8, h]
theorem at8_le (s : ByteArray) (p : Nat) : 0 ≤ at8 s p ∧ at8 s p ≤ 255 := by
  unfold at8; split
  · rename_i h
    have := (s[p]'h).toNat_lt
    omega
  · omega

/-- The number of so many digits from a place on, behind a number. -/
def hx (s : ByteArray) : Nat → Nat → Int → Option Int
  | 0, _, v => some v
  | k + 1, p, v => if dok (at8 s p) then hx s k (p + 1) (v * 16 + dv (at8 s p)) else none
/-- The code point of a string of four to six digits. -/
def hexV (s : ByteArray) : Option Int := if s.size < 4 ∨ 6 < s.size then none else (hx s s.size 0 0).bind fun n => if 1114111 < n then none else some n
def hexN (s : ByteArray) : Int := (hexV s).getD 0
def hexB (s : ByteArray) : Bool := (hexV s).isSome

theorem hx_go (s : ByteArray) (k p : Nat) (v : Int) (hk : k ≠ 0) (h : dok (at8 s p) = true) : hx s k p v = hx s (k - 1) (p + 1) (v * 16 + dv (at8 s p)) := by
  cases k with
  | zero => omega
  | succ k => rw [hx, if_pos h]; rfl
theorem hx_no (s : ByteArray) (k p : Nat) (v : Int) (hk : k ≠ 0) (h : dok (at8 s p) = false) : hx s k p v = none := by
  cases k with
  | zero => omega
  | succ k => rw [hx, if_neg (by simp [h])]

/-- How great the number of so many digits may be. -/
def Lim (p : Nat) (v : Int) : Prop := 0 ≤ v ∧ (p = 0 → v ≤ 0) ∧ (p = 1 → v ≤ 15) ∧ (p = 2 → v ≤ 255) ∧ (p = 3 → v ≤ 4095) ∧ (p = 4 → v ≤ 65535) ∧ (p = 5 → v ≤ 1048575) ∧ (p = 6 → v ≤ 16777215)
theorem Lim.step {p : Nat} {v d : Int} (h : Lim p v) (hp : p < 6) (h0 : 0 ≤ d) (h1 : d ≤ 15) : Lim (p + 1) (v * 16 + d) := by unfold Lim at *; omega
theorem Lim.le {p : Nat} {v : Int} (h : Lim p v) (hp : p ≤ 6) : 0 ≤ v ∧ v ≤ 16777215 := by unfold Lim at h; omega

theorem or_digit (v d : Int) (h0 : 0 ≤ v) (h1 : v ≤ 16777215) (hd : 0 ≤ d) (hd1 : d ≤ 15) : bits BinOp.or IntKind.i64 (v * 16) d = v * 16 + d :=
  bits_join .i64 63 (by decide) (fun n a b => by rw [IntKind.wrap_i64]; omega) 4 _ _ (by omega) (by omega) (by omega) (by omega) (by omega) (by omega)

theorem hexV_short (s : ByteArray) (h : s.size < 4 ∨ 6 < s.size) : hexV s = none := by unfold hexV; rw [if_pos h]
theorem hexV_none (s : ByteArray) (h : hx s s.size 0 0 = none) : hexV s = none := by
  unfold hexV; split
  · rfl
  · rw [h]; rfl
theorem hexV_big (s : ByteArray) (v : Int) (h : hx s s.size 0 0 = some v) (hv : 1114111 < v) : hexV s = none := by
  unfold hexV; split
  · rfl
  · rw [h]; simp [hv]
theorem hexV_some (s : ByteArray) (v : Int) (h : hx s s.size 0 0 = some v) (hs : 4 ≤ s.size ∧ s.size ≤ 6) (hv : v ≤ 1114111) : hexV s = some v := by
  unfold hexV; rw [if_neg (by omega), h]; simp; omega
theorem hex_none {s : ByteArray} (h : hexV s = none) : hexN s = 0 ∧ hexB s = false := by unfold hexN hexB; rw [h]; exact ⟨rfl, rfl⟩
theorem hex_some {s : ByteArray} {v : Int} (h : hexV s = some v) : hexN s = v ∧ hexB s = true := by unfold hexN hexB; rw [h]; exact ⟨rfl, rfl⟩

end Go.Proofs.YtnpnmhjhohhnjaaDoor.lin
