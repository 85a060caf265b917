/- What utf.Encode and the document's Encode return: a code point's bytes in a new block, or nothing. -/
import Derived.Test.YtamcaomenbgabaaDoorUtfSmall
import Derived.Outline
set_option linter.unusedVariables false
set_option linter.unusedSimpArgs false
namespace Go.Proofs.YtamcaomenbgabaaDoor.utf
open Go.RowKit

/-- The table firstMarks, as the program's text lays it. -/
structure Marks (w : World) : Prop where
  c1 : w.cell? ⟨0, 1, none⟩ = some (.int .u8 0)
  c2 : w.cell? ⟨0, 2, none⟩ = some (.int .u8 192)
  c3 : w.cell? ⟨0, 3, none⟩ = some (.int .u8 224)
  c4 : w.cell? ⟨0, 4, none⟩ = some (.int .u8 240)

theorem Marks.below {w w' : World} (h : Marks w) (hb : Below w.heap.size w w') : Marks w' :=
  ⟨(hb.cell (World.block_lt_of_cell? w _ h.c1)).trans h.c1, (hb.cell (World.block_lt_of_cell? w _ h.c2)).trans h.c2, (hb.cell (World.block_lt_of_cell? w _ h.c3)).trans h.c3, (hb.cell (World.block_lt_of_cell? w _ h.c4)).trans h.c4⟩
theorem Marks.alloc {w : World} (h : Marks w) (o : Obj) : Marks (w.alloc o) := h.below ((Below.refl _ _).alloc (Nat.le_refl _) o)

theorem enc_no (r : Int) (w : World) (h : len r = 0) :
    Calls Tryd.prog 15 #[.int .i64 r] w fun e w' => e = .returned (.tuple #[.slice none 0 0, .bool false]) ∧ w' = w := by
  go_enter Tryd.func15, Tryd.ntmps15
  go_wp2_with (go_at_call 22; refine (size_any _ _).mono ?_; rintro e w' ⟨rfl, rfl⟩)
  go_ret2
  exact ⟨rfl, rfl⟩

theorem or192 (r : Int) (h0 : 0 ≤ r) (h1 : r ≤ 2047) : bits .or .u8 192 (r / 64 % 256) = 192 + r / 64 := by
  rw [u8_or192 _ (by omega) (by omega)]; omega
theorem or224 (r : Int) (h0 : 0 ≤ r) (h1 : r ≤ 65535) : bits .or .u8 224 (r / 64 / 64 % 256) = 224 + r / 64 / 64 := by
  rw [u8_or224 _ (by omega) (by omega)]; omega
theorem or240 (r : Int) (h0 : 0 ≤ r) (h1 : r ≤ 1114111) : bits .or .u8 240 (r / 64 / 64 / 64 % 256) = 240 + r / 64 / 64 / 64 := by
  rw [u8_or240 _ (by omega) (by omega)]; omega
theorem or0 (r : Int) (h0 : 0 ≤ r) (h1 : r ≤ 127) : bits .or .u8 0 r = r := by
  rw [show bits .or .u8 0 r = 0 + r from bits_join .u8 8 (by decide) wraps_u8 7 0 r (by decide) (by decide) (by decide) (by omega) (by omega) (by omega)]
  omega

theorem enc_1 (r : Int) (w : World) (h : len r = 1) (h0 : 0 ≤ r) (h1 : r ≤ 127) (hm : Marks w) :
    Calls Tryd.prog 15 #[.int .i64 r] w fun e w' => e = .returned (.tuple #[.slice (some ⟨w.heap.size, 0, none⟩) 1 1, .bool true]) ∧ w' = w.alloc (.cells #[.int .u8 r] 5) := by
  have hm2 := fun o => (hm.alloc o).c1
  have ho := or0 r h0 h1
  clear hm
  have hmk : ∀ w, (Instr.makeSlice 22 (.int .i64 1) (.int .i64 1)).run Tryd.prog w = .ok (.slice (some ⟨w.heap.size, 0, none⟩) 1 1) (w.alloc (.cells #[.int .u8 0] 5)) := fun _ => by kernel_rfl
  go_enter Tryd.func15, Tryd.ntmps15
  go_wp2_with (first | (go_at_call 22; refine (size_any _ _).mono ?_; rintro e w' ⟨rfl, rfl⟩) | (go_at_call 23; refine (tail_any _ _ (by omega) (by omega)).mono ?_; rintro e w' ⟨rfl, rfl⟩))
  go_ret2
  exact ⟨rfl, rfl⟩
theorem enc_2 (r : Int) (w : World) (h : len r = 2) (h0 : 0 ≤ r) (h1 : r ≤ 2047) (hm : Marks w) :
    Calls Tryd.prog 15 #[.int .i64 r] w fun e w' => e = .returned (.tuple #[.slice (some ⟨w.heap.size, 0, none⟩) 2 2, .bool true]) ∧ w' = w.alloc (.cells #[.int .u8 (192 + r / 64), .int .u8 (128 + r % 64)] 5) := by
  have hm2 := fun o => (hm.alloc o).c2
  have ho := or192 r h0 h1
  clear hm
  have hmk : ∀ w, (Instr.makeSlice 22 (.int .i64 2) (.int .i64 2)).run Tryd.prog w = .ok (.slice (some ⟨w.heap.size, 0, none⟩) 2 2) (w.alloc (.cells #[.int .u8 0, .int .u8 0] 5)) := fun _ => by kernel_rfl
  go_enter Tryd.func15, Tryd.ntmps15
  go_wp2_with (first | (go_at_call 22; refine (size_any _ _).mono ?_; rintro e w' ⟨rfl, rfl⟩) | (go_at_call 23; refine (tail_any _ _ (by omega) (by omega)).mono ?_; rintro e w' ⟨rfl, rfl⟩))
  go_ret2
  exact ⟨rfl, rfl⟩
theorem enc_3 (r : Int) (w : World) (h : len r = 3) (h0 : 0 ≤ r) (h1 : r ≤ 65535) (hm : Marks w) :
    Calls Tryd.prog 15 #[.int .i64 r] w fun e w' => e = .returned (.tuple #[.slice (some ⟨w.heap.size, 0, none⟩) 3 3, .bool true]) ∧ w' = w.alloc (.cells #[.int .u8 (224 + r / 64 / 64), .int .u8 (128 + r / 64 % 64), .int .u8 (128 + r % 64)] 5) := by
  have hm2 := fun o => (hm.alloc o).c3
  have ho := or224 r h0 h1
  clear hm
  have hmk : ∀ w, (Instr.makeSlice 22 (.int .i64 3) (.int .i64 3)).run Tryd.prog w = .ok (.slice (some ⟨w.heap.size, 0, none⟩) 3 3) (w.alloc (.cells #[.int .u8 0, .int .u8 0, .int .u8 0] 5)) := fun _ => by kernel_rfl
  go_enter Tryd.func15, Tryd.ntmps15
  go_wp2_with (first | (go_at_call 22; refine (size_any _ _).mono ?_; rintro e w' ⟨rfl, rfl⟩) | (go_at_call 23; refine (tail_any _ _ (by omega) (by omega)).mono ?_; rintro e w' ⟨rfl, rfl⟩))
  go_ret2
  exact ⟨rfl, rfl⟩
theorem enc_4 (r : Int) (w : World) (h : len r = 4) (h0 : 0 ≤ r) (h1 : r ≤ 1114111) (hm : Marks w) :
    Calls Tryd.prog 15 #[.int .i64 r] w fun e w' => e = .returned (.tuple #[.slice (some ⟨w.heap.size, 0, none⟩) 4 4, .bool true]) ∧ w' = w.alloc (.cells #[.int .u8 (240 + r / 64 / 64 / 64), .int .u8 (128 + r / 64 / 64 % 64), .int .u8 (128 + r / 64 % 64), .int .u8 (128 + r % 64)] 5) := by
  have hm2 := fun o => (hm.alloc o).c4
  have ho := or240 r h0 h1
  clear hm
  have hmk : ∀ w, (Instr.makeSlice 22 (.int .i64 4) (.int .i64 4)).run Tryd.prog w = .ok (.slice (some ⟨w.heap.size, 0, none⟩) 4 4) (w.alloc (.cells #[.int .u8 0, .int .u8 0, .int .u8 0, .int .u8 0] 5)) := fun _ => by kernel_rfl
  go_enter Tryd.func15, Tryd.ntmps15
  go_wp2_with (first | (go_at_call 22; refine (size_any _ _).mono ?_; rintro e w' ⟨rfl, rfl⟩) | (go_at_call 23; refine (tail_any _ _ (by omega) (by omega)).mono ?_; rintro e w' ⟨rfl, rfl⟩))
  go_ret2
  exact ⟨rfl, rfl⟩

/-- A code point's bytes. -/
def enc (r : Int) : List Int :=
  if len r = 1 then [r] else if len r = 2 then [192 + r / 64, 128 + r % 64] else if len r = 3 then [224 + r / 64 / 64, 128 + r / 64 % 64, 128 + r % 64]
  else if len r = 4 then [240 + r / 64 / 64 / 64, 128 + r / 64 / 64 % 64, 128 + r / 64 % 64, 128 + r % 64] else []
theorem len_cases (r : Int) (h : len r ≠ 0) : 0 ≤ r ∧ r ≤ 1114111 ∧ ¬ (55296 ≤ r ∧ r ≤ 57343) ∧ ((len r = 1 ∧ r ≤ 127) ∨ (len r = 2 ∧ 127 < r ∧ r ≤ 2047) ∨ (len r = 3 ∧ 2047 < r ∧ r ≤ 65535) ∨ (len r = 4 ∧ 65535 < r)) := by
  unfold len at h ⊢; revert h; (repeat' split) <;> omega
/-- The block of a code point's bytes. -/
def encBlock (r : Int) : Obj := .cells ((enc r).map (Value.int .u8)).toArray 5

theorem enc_yes (r : Int) (w : World) (h : len r ≠ 0) (hm : Marks w) :
    Calls Tryd.prog 15 #[.int .i64 r] w fun e w' => e = .returned (.tuple #[.slice (some ⟨w.heap.size, 0, none⟩) (enc r).length (enc r).length, .bool true]) ∧ w' = w.alloc (encBlock r) := by
  obtain ⟨h0, h1, _, c | c | c | c⟩ := len_cases r h
  · have e : enc r = [r] := by unfold enc; rw [if_pos c.1]
    rw [e, encBlock, e]; exact enc_1 r w c.1 h0 c.2 hm
  · have e : enc r = [192 + r / 64, 128 + r % 64] := by unfold enc; rw [if_neg (by omega), if_pos c.1]
    rw [e, encBlock, e]; exact enc_2 r w c.1 h0 c.2.2 hm
  · have e : enc r = [224 + r / 64 / 64, 128 + r / 64 % 64, 128 + r % 64] := by unfold enc; rw [if_neg (by omega), if_neg (by omega), if_pos c.1]
    rw [e, encBlock, e]; exact enc_3 r w c.1 h0 c.2.2 hm
  · have e : enc r = [240 + r / 64 / 64 / 64, 128 + r / 64 / 64 % 64, 128 + r / 64 % 64, 128 + r % 64] := by unfold enc; rw [if_neg (by omega), if_neg (by omega), if_neg (by omega), if_pos c.1]
    rw [e, encBlock, e]; exact enc_4 r w c.1 h0 h1 hm

end Go.Proofs.YtamcaomenbgabaaDoor.utf
