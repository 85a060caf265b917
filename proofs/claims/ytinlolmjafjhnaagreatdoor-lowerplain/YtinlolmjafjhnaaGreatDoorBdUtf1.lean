/- Texts that the proof leans on, one behind the other. -/
import Derived.Laws.BitsLemmas
import Derived.Test.YtinlolmjafjhnaaGreatDoorProg
import Derived.WalkKit
import Derived.WalkSpells
import Derived.WalkLawsBesides
import Derived.Outline
import Derived.Lib.Bytes
import Derived.Lib.Walk

section
/- Plain mathematics of UTF-8 items (no program): the item at a place of bytes, the items of bytes, a code point's bytes; bytes are a function from places to numbers and a length. -/
set_option linter.unusedVariables false
set_option linter.unusedSimpArgs false
namespace Go.Proofs.YtinlolmjafjhnaaGreatDoor.utf

/-- How many bytes a first byte asks for. -/
def sz (c : Int) : Nat := if c ≤ 127 then 1 else if 194 ≤ c ∧ c ≤ 223 then 2 else if 224 ≤ c ∧ c ≤ 239 then 3 else if 240 ≤ c ∧ c ≤ 244 then 4 else 0
/-- Its bits of the code point. -/
def hb (c : Int) : Int := if c ≤ 127 then c else if 194 ≤ c ∧ c ≤ 223 then c % 32 else if 224 ≤ c ∧ c ≤ 239 then c % 16 else if 240 ≤ c ∧ c ≤ 244 then c % 8 else 0
/-- The least and the greatest second byte. -/
def lo (c : Int) : Int := if c = 224 then 160 else if c = 240 then 144 else 128
def hi (c : Int) : Int := if c = 237 then 159 else if c = 244 then 143 else 191

/-- The least and the greatest byte at a place behind the first one. -/
def lob (c : Int) (a : Nat) : Int := if a = 1 then lo c else 128
def hib (c : Int) (a : Nat) : Int := if a = 1 then hi c else 191
/-- Going on behind the first byte: so many bytes are still asked for. The code point, the end, whether it is well-formed. -/
def run (f : Nat → Int) (n : Nat) : Nat → Int → Nat → Int → Int → Int × Nat × Bool
 | 0, r, e, _, _ => (r, e, true)
 | k + 1, r, e, l, h => if e < n ∧ l ≤ f e ∧ f e ≤ h then run f n k (r * 64 + f e % 64) (e + 1) 128 191 else (65533, e, false)

/-- The item at a place. -/
def it (f : Nat → Int) (n a : Nat) : Int × Nat × Bool :=
 if sz (f a) = 0 then (65533, a + 1, false) else run f n (sz (f a) - 1) (hb (f a)) (a + 1) (lo (f a)) (hi (f a))

/-- The items from a place on, with so much fuel: code point, beginning, end. -/
def dec (f : Nat → Int) (n : Nat) : Nat → Nat → List (Int × Nat × Nat)
 | 0, _ => []
 | k + 1, a => if a < n then ((it f n a).1, a, (it f n a).2.1) :: dec f n k (it f n a).2.1 else []

/-- Whether all from a place on are well-formed. -/
def val (f : Nat → Int) (n : Nat) : Nat → Nat → Bool
 | 0, _ => true
 | k + 1, a => if a < n then (it f n a).2.2 && val f n k (it f n a).2.1 else true

/-- All items from a place on; whether all are well-formed. -/
def items (f : Nat → Int) (n a : Nat) : List (Int × Nat × Nat) := dec f n (n - a) a
def valid (f : Nat → Int) (n a : Nat) : Bool := val f n (n - a) a

end Go.Proofs.YtinlolmjafjhnaaGreatDoor.utf
end

section
/- What the small functions of utf and of the document's answer return: tailOf, sizeOf, headOf, secondBounds, isTail, Size, bounds; none of them changes memory. -/
set_option linter.unusedVariables false
set_option linter.unusedSimpArgs false
namespace Go.Proofs.YtinlolmjafjhnaaGreatDoor.utf
open Go.RowKit

theorem ret_int {k : IntKind} {a b : Int} (h : a = b) : Ending.returned (.int k a) = .returned (.int k b) := by rw [h]
theorem ret_bool {a b : Bool} (h : a = b) : Ending.returned (.bool a) = .returned (.bool b) := by rw [h]
theorem i64_and63 (x : Int) (h0 : 0 ≤ x) (h1 : x < 9223372036854775808) : bits .and .i64 x 63 = x % 64 :=
 bits_mask .i64 63 (by decide) (fun n a b => by rw [IntKind.wrap_i64]; omega) 6 (by decide) x h0 (by simpa using h1)
theorem tail_eq (r : Int) (h0 : 0 ≤ r) (h1 : r ≤ 1114111) : bits BinOp.or IntKind.u8 128 (bits BinOp.and IntKind.i64 r 63 % 256) = 128 + r % 64 := by
 rw [i64_and63 r h0 (by omega), u8_or128 _ (by omega) (by omega)]
 omega

theorem tail_any (r : Int) (w : World) (h0 : 0 ≤ r) (h1 : r ≤ 1114111) :
  Calls Tryz.prog 278 #[.int .i64 r] w fun e w' => e = .returned (.int .u8 (128 + r % 64)) ∧ w' = w := by
 go_enter Tryz.func278, Tryz.ntmps278
 go_wp2
 go_ret
 exact ⟨ret_int (tail_eq r h0 h1), rfl⟩

/-- How many bytes a code point has; 0: none. -/
def len (r : Int) : Int := if r < 0 ∨ 1114111 < r ∨ (55296 ≤ r ∧ r ≤ 57343) then 0 else if r ≤ 127 then 1 else if r ≤ 2047 then 2 else if r ≤ 65535 then 3 else 4

theorem size_any (r : Int) (w : World) :
  Calls Tryz.prog 277 #[.int .i64 r] w fun e w' => e = .returned (.int .i64 (len r)) ∧ w' = w := by
 go_enter Tryz.func277, Tryz.ntmps277
 go_wp2
 all_goals (go_ret; exact ⟨ret_int (by unfold len; (repeat' split) <;> omega), rfl⟩)

end Go.Proofs.YtinlolmjafjhnaaGreatDoor.utf
end

section
/- What utf.Encode and the document's Encode return: a code point's bytes in a new block, or nothing. -/
set_option linter.unusedVariables false
set_option linter.unusedSimpArgs false
namespace Go.Proofs.YtinlolmjafjhnaaGreatDoor.utf
open Go.RowKit

/-- The table firstMarks, as the program's text lays it. -/
structure Marks (w : World) : Prop where
 c1 : w.cell? ⟨7, 1, none⟩ = some (.int .u8 0)
 c2 : w.cell? ⟨7, 2, none⟩ = some (.int .u8 192)
 c3 : w.cell? ⟨7, 3, none⟩ = some (.int .u8 224)
 c4 : w.cell? ⟨7, 4, none⟩ = some (.int .u8 240)

theorem Marks.below {w w' : World} (h : Marks w) (hb : Below w.heap.size w w') : Marks w' :=
 ⟨(hb.cell (World.block_lt_of_cell? w _ h.c1)).trans h.c1, (hb.cell (World.block_lt_of_cell? w _ h.c2)).trans h.c2, (hb.cell (World.block_lt_of_cell? w _ h.c3)).trans h.c3, (hb.cell (World.block_lt_of_cell? w _ h.c4)).trans h.c4⟩
theorem Marks.alloc {w : World} (h : Marks w) (o : Obj) : Marks (w.alloc o) := h.below ((Below.refl _ _).alloc (Nat.le_refl _) o)

theorem or192 (r : Int) (h0 : 0 ≤ r) (h1 : r ≤ 2047) : bits .or .u8 192 (r / 64 % 256) = 192 + r / 64 := by
 rw [u8_or192 _ (by omega) (by omega)]; omega
theorem or224 (r : Int) (h0 : 0 ≤ r) (h1 : r ≤ 65535) : bits .or .u8 224 (r / 64 / 64 % 256) = 224 + r / 64 / 64 := by
 rw [u8_or224 _ (by omega) (by omega)]; omega
theorem or240 (r : Int) (h0 : 0 ≤ r) (h1 : r ≤ 1114111) : bits .or .u8 240 (r / 64 / 64 / 64 % 256) = 240 + r / 64 / 64 / 64 := by
 rw [u8_or240 _ (by omega) (by omega)]; omega
theorem or0 (r : Int) (h0 : 0 ≤ r) (h1 : r ≤ 127) : bits .or .u8 0 r = r := by
 rw [show bits .or .u8 0 r = 0 + r from bits_join .u8 8 (by decide) wraps_u8 7 0 r (by decide) (by decide) (by decide) (by omega) (by omega) (by omega)]
 omega

theorem enc_1 (r : Int) (w : World) (h : len r = 1) (h0 : 0 ≤ r) (h1 : r ≤ 127) (hm : Marks w) :
  Calls Tryz.prog 237 #[.int .i64 r] w fun e w' => e = .returned (.tuple #[.slice (some ⟨w.heap.size, 0, none⟩) 1 1, .bool true]) ∧ w' = w.alloc (.cells #[.int .u8 r] 5) := by
 have hm2 := fun o => (hm.alloc o).c1
 have ho := or0 r h0 h1
 clear hm
 have hmk : ∀ w, (Instr.makeSlice 115 (.int .i64 1) (.int .i64 1)).run Tryz.prog w = .ok (.slice (some ⟨w.heap.size, 0, none⟩) 1 1) (w.alloc (.cells #[.int .u8 0] 5)) := fun _ => by kernel_rfl
 go_enter Tryz.func237, Tryz.ntmps237
 go_wp2_with (first | (go_at_call 277; refine (size_any _ _).mono ?_; rintro e w' ⟨rfl, rfl⟩) | (go_at_call 278; refine (tail_any _ _ (by omega) (by omega)).mono ?_; rintro e w' ⟨rfl, rfl⟩))
 go_ret2
 exact ⟨rfl, rfl⟩
theorem enc_2 (r : Int) (w : World) (h : len r = 2) (h0 : 0 ≤ r) (h1 : r ≤ 2047) (hm : Marks w) :
  Calls Tryz.prog 237 #[.int .i64 r] w fun e w' => e = .returned (.tuple #[.slice (some ⟨w.heap.size, 0, none⟩) 2 2, .bool true]) ∧ w' = w.alloc (.cells #[.int .u8 (192 + r / 64), .int .u8 (128 + r % 64)] 5) := by
 have hm2 := fun o => (hm.alloc o).c2
 have ho := or192 r h0 h1
 clear hm
 have hmk : ∀ w, (Instr.makeSlice 115 (.int .i64 2) (.int .i64 2)).run Tryz.prog w = .ok (.slice (some ⟨w.heap.size, 0, none⟩) 2 2) (w.alloc (.cells #[.int .u8 0, .int .u8 0] 5)) := fun _ => by kernel_rfl
 go_enter Tryz.func237, Tryz.ntmps237
 go_wp2_with (first | (go_at_call 277; refine (size_any _ _).mono ?_; rintro e w' ⟨rfl, rfl⟩) | (go_at_call 278; refine (tail_any _ _ (by omega) (by omega)).mono ?_; rintro e w' ⟨rfl, rfl⟩))
 go_ret2
 exact ⟨rfl, rfl⟩
theorem enc_3 (r : Int) (w : World) (h : len r = 3) (h0 : 0 ≤ r) (h1 : r ≤ 65535) (hm : Marks w) :
  Calls Tryz.prog 237 #[.int .i64 r] w fun e w' => e = .returned (.tuple #[.slice (some ⟨w.heap.size, 0, none⟩) 3 3, .bool true]) ∧ w' = w.alloc (.cells #[.int .u8 (224 + r / 64 / 64), .int .u8 (128 + r / 64 % 64), .int .u8 (128 + r % 64)] 5) := by
 have hm2 := fun o => (hm.alloc o).c3
 have ho := or224 r h0 h1
 clear hm
 have hmk : ∀ w, (Instr.makeSlice 115 (.int .i64 3) (.int .i64 3)).run Tryz.prog w = .ok (.slice (some ⟨w.heap.size, 0, none⟩) 3 3) (w.alloc (.cells #[.int .u8 0, .int .u8 0, .int .u8 0] 5)) := fun _ => by kernel_rfl
 go_enter Tryz.func237, Tryz.ntmps237
 go_wp2_with (first | (go_at_call 277; refine (size_any _ _).mono ?_; rintro e w' ⟨rfl, rfl⟩) | (go_at_call 278; refine (tail_any _ _ (by omega) (by omega)).mono ?_; rintro e w' ⟨rfl, rfl⟩))
 go_ret2
 exact ⟨rfl, rfl⟩
theorem enc_4 (r : Int) (w : World) (h : len r = 4) (h0 : 0 ≤ r) (h1 : r ≤ 1114111) (hm : Marks w) :
  Calls Tryz.prog 237 #[.int .i64 r] w fun e w' => e = .returned (.tuple #[.slice (some ⟨w.heap.size, 0, none⟩) 4 4, .bool true]) ∧ w' = w.alloc (.cells #[.int .u8 (240 + r / 64 / 64 / 64), .int .u8 (128 + r / 64 / 64 % 64), .int .u8 (128 + r / 64 % 64), .int .u8 (128 + r % 64)] 5) := by
 have hm2 := fun o => (hm.alloc o).c4
 have ho := or240 r h0 h1
 clear hm
 have hmk : ∀ w, (Instr.makeSlice 115 (.int .i64 4) (.int .i64 4)).run Tryz.prog w = .ok (.slice (some ⟨w.heap.size, 0, none⟩) 4 4) (w.alloc (.cells #[.int .u8 0, .int .u8 0, .int .u8 0, .int .u8 0] 5)) := fun _ => by kernel_rfl
 go_enter Tryz.func237, Tryz.ntmps237
 go_wp2_with (first | (go_at_call 277; refine (size_any _ _).mono ?_; rintro e w' ⟨rfl, rfl⟩) | (go_at_call 278; refine (tail_any _ _ (by omega) (by omega)).mono ?_; rintro e w' ⟨rfl, rfl⟩))
 go_ret2
 exact ⟨rfl, rfl⟩

/-- A code point's bytes. -/
def enc (r : Int) : List Int :=
 if len r = 1 then [r] else if len r = 2 then [192 + r / 64, 128 + r % 64] else if len r = 3 then [224 + r / 64 / 64, 128 + r / 64 % 64, 128 + r % 64]
 else if len r = 4 then [240 + r / 64 / 64 / 64, 128 + r / 64 / 64 % 64, 128 + r / 64 % 64, 128 + r % 64] else []
theorem len_cases (r : Int) (h : len r ≠ 0) : 0 ≤ r ∧ r ≤ 1114111 ∧ ¬ (55296 ≤ r ∧ r ≤ 57343) ∧ ((len r = 1 ∧ r ≤ 127) ∨ (len r = 2 ∧ 127 < r ∧ r ≤ 2047) ∨ (len r = 3 ∧ 2047 < r ∧ r ≤ 65535) ∨ (len r = 4 ∧ 65535 < r)) := by
 unfold len at h ⊢; revert h; (repeat' split) <;> omega
/-- The block of a code point's bytes. -/
def encBlock (r : Int) : Obj := .cells ((enc r).map (Value.int .u8)).toArray 5

theorem enc_yes (r : Int) (w : World) (h : len r ≠ 0) (hm : Marks w) :
  Calls Tryz.prog 237 #[.int .i64 r] w fun e w' => e = .returned (.tuple #[.slice (some ⟨w.heap.size, 0, none⟩) (enc r).length (enc r).length, .bool true]) ∧ w' = w.alloc (encBlock r) := by
 obtain ⟨h0, h1, _, c | c | c | c⟩ := len_cases r h
 ·have e : enc r = [r] := by unfold enc; rw [if_pos c.1]
  rw [e, encBlock, e]; exact enc_1 r w c.1 h0 c.2 hm
 ·have e : enc r = [192 + r / 64, 128 + r % 64] := by unfold enc; rw [if_neg (by omega), if_pos c.1]
  rw [e, encBlock, e]; exact enc_2 r w c.1 h0 c.2.2 hm
 ·have e : enc r = [224 + r / 64 / 64, 128 + r / 64 % 64, 128 + r % 64] := by unfold enc; rw [if_neg (by omega), if_neg (by omega), if_pos c.1]
  rw [e, encBlock, e]; exact enc_3 r w c.1 h0 c.2.2 hm
 ·have e : enc r = [240 + r / 64 / 64 / 64, 128 + r / 64 / 64 % 64, 128 + r / 64 % 64, 128 + r % 64] := by unfold enc; rw [if_neg (by omega), if_neg (by omega), if_neg (by omega), if_pos c.1]
  rw [e, encBlock, e]; exact enc_4 r w c.1 h0 h1 hm

end Go.Proofs.YtinlolmjafjhnaaGreatDoor.utf
end

section
/- What bytes.Equal answers of two lists of bytes, and that the statements' own small call (awake) answers true; nothing that was there changes. -/
set_option linter.unusedVariables false
set_option linter.unusedSimpArgs false
namespace Go.Proofs.YtinlolmjafjhnaaGreatDoor.utf
open Go.RowKit

/-- The value reads as these bytes: what its conversion to a string gives. -/
def Bts (w : World) (v : Value) (xs : List Int) : Prop := (convert 115 9 v).run Tryz.prog w = .ok (.string (strOfNums xs)) w

theorem bts_cells {w : World} {b off : Nat} {xs : List Int} (cap : Nat) (h : ∀ i, i < xs.length → w.cell? ⟨b, off + i, none⟩ = some (.int .u8 (xs.getD i 0))) : Bts w (.slice (some ⟨b, off, none⟩) xs.length cap) xs :=
 run_convert_bytes_arg (P := Tryz.prog) w 115 5 Tryz.underlying115 Tryz.underlying5 b off xs.length cap xs rfl h 9 Tryz.underlying9
theorem bts_block {w : World} {g : Nat} {xs : List Int} (cap : Nat) (h : w.heap[g]? = some (.cells (xs.map (Value.int .u8)).toArray 5 (0, 0))) : Bts w (.slice (some ⟨g, 0, none⟩) xs.length cap) xs := by
 refine bts_cells cap fun i hi => ?_
 simp [World.cell?, h, hi]

end Go.Proofs.YtinlolmjafjhnaaGreatDoor.utf
end
