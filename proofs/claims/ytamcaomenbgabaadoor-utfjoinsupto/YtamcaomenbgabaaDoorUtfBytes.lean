/- What bytes.Equal answers of two lists of bytes, and that the statements' own small call (awake) answers true; nothing that was there changes. -/
import Derived.Test.YtamcaomenbgabaaDoorUtfEnc
import Derived.Lib.Bytes
import Derived.Lib.Walk
set_option linter.unusedVariables false
set_option linter.unusedSimpArgs false
namespace Go.Proofs.YtamcaomenbgabaaDoor.utf
open Go.RowKit

/-- The value reads as these bytes: what its conversion to a string gives. -/
def Bts (w : World) (v : Value) (xs : List Int) : Prop := (convert 22 9 v).run Tryd.prog w = .ok (.string (strOfNums xs)) w

theorem bts_cells {w : World} {b off : Nat} {xs : List Int} (cap : Nat) (h : ∀ i, i < xs.length → w.cell? ⟨b, off + i, none⟩ = some (.int .u8 (xs.getD i 0))) : Bts w (.slice (some ⟨b, off, none⟩) xs.length cap) xs :=
  run_convert_bytes_arg (P := Tryd.prog) w 22 5 Tryd.underlying22 Tryd.underlying5 b off xs.length cap xs rfl h 9 Tryd.underlying9
theorem bts_nil (w : World) (l c : Nat) : Bts w (.slice none l c) [] := by
  have := run_convert_bytes_nil (P := Tryd.prog) w 22 5 Tryd.underlying22 Tryd.underlying5 l c 9 Tryd.underlying9
  exact this
theorem bts_block {w : World} {g : Nat} {xs : List Int} (cap : Nat) (h : w.heap[g]? = some (.cells (xs.map (Value.int .u8)).toArray 5 (0, 0))) : Bts w (.slice (some ⟨g, 0, none⟩) xs.length cap) xs := by
  refine bts_cells cap fun i hi => ?_
  simp [World.cell?, h, hi]

theorem beq_any (v1 v2 : Value) (xs ys : List Int) (w : World) (h1 : Bts w v1 xs) (h2 : Bts w v2 ys) :
    Calls Tryd.prog 16 #[v1, v2] w fun e w' => e = .returned (.bool (Lib.bytesOf xs == Lib.bytesOf ys)) ∧ w' = w := by
  unfold Bts at h1 h2
  rw [← Lib.strOfNums_toList, ← Lib.strOfNums_toList]
  go_enter Tryd.func16, Tryd.ntmps16
  go_wp2
  go_ret
  exact ⟨rfl, rfl⟩
theorem beq_same (v1 v2 : Value) (xs : List Int) (w : World) (h1 : Bts w v1 xs) (h2 : Bts w v2 xs) :
    Calls Tryd.prog 16 #[v1, v2] w fun e w' => e = .returned (.bool true) ∧ w' = w := by
  have := beq_any v1 v2 xs xs w h1 h2
  simpa using this

theorem enc_euro : enc 8364 = [226, 130, 172] := by decide
theorem len_euro : len 8364 ≠ 0 := by decide

theorem heap_two1 (w : World) (o o' : Obj) : ((w.alloc o).alloc o').heap[w.heap.size]? = some o := by
  rw [Below.heap_alloc _ _ _ (by simp)]
  exact heap_alloc_new w o
theorem heap_two2 (w : World) (o o' : Obj) : ((w.alloc o).alloc o').heap[w.heap.size + 1]? = some o' := by
  have := heap_alloc_new (w.alloc o) o'
  simpa using this

theorem awake_any (w : World) (hm : Marks w) :
    Calls Tryd.prog 8 #[] w fun e w' => e = .returned (.bool true) ∧ Below w.heap.size w w' := by
  have HE := enc_yes 8364 w len_euro hm
  rw [encBlock, enc_euro] at HE
  have b1 : Bts ((w.alloc (.cells #[.int .u8 226, .int .u8 130, .int .u8 172] 5)).alloc (.cells #[.int .u8 226, .int .u8 130, .int .u8 172] 5)) (.slice (some ⟨w.heap.size, 0, none⟩) 3 3) [226, 130, 172] := bts_block (xs := [226, 130, 172]) 3 (heap_two1 w _ _)
  have b2 : Bts ((w.alloc (.cells #[.int .u8 226, .int .u8 130, .int .u8 172] 5)).alloc (.cells #[.int .u8 226, .int .u8 130, .int .u8 172] 5)) (.slice (some ⟨w.heap.size + 1, 0, none⟩) 3 3) [226, 130, 172] := bts_block (xs := [226, 130, 172]) 3 (heap_two2 w _ _)
  have EQ := beq_same _ _ _ _ b1 b2
  clear hm b1 b2
  go_enter Tryd.func8, Tryd.ntmps8
  go_wp2_with (first
    | (go_at_call 15; refine HE.mono ?_; rintro e w' ⟨rfl, rfl⟩)
    | (go_at_call 16; refine EQ.mono ?_; rintro e w' ⟨rfl, rfl⟩))
  go_ret
  exact ⟨rfl, ((Below.refl _ _).alloc (Nat.le_refl _) _).alloc (by simp) _⟩

end Go.Proofs.YtamcaomenbgabaaDoor.utf
