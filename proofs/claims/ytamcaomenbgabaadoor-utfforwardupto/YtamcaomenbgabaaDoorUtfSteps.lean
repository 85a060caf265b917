/- What utf.Next, utf.Prev and the document's Next and Prev answer; the walk of UtfSteps. -/
import Derived.Test.YtamcaomenbgabaaDoorUtfPrev
import Derived.Test.YtamcaomenbgabaaDoorUtfRef
import Derived.Test.YtamcaomenbgabaaDoorUtfStands
set_option linter.unusedVariables false
set_option linter.unusedSimpArgs false
namespace Go.Proofs.YtamcaomenbgabaaDoor.utf
open Go.RowKit

theorem next_no (ao : Option Addr) (n cap : Nat) (a : Int) (w : World) (ha : a < 0 ∨ (n : Int) ≤ a) :
    Calls Tryd.prog 6 #[.slice ao n cap, .int .i64 a] w fun e w' => e = .returned (.tuple #[.agg #[.int .i64 0, .int .i64 0, .int .i64 0], .bool false]) ∧ Below w.heap.size w w' := by
  rcases ha with ha | ha
  · go_enter Tryd.func6, Tryd.ntmps6
    go_wp2
    refine bodyPost_ret (v := .tuple #[.agg #[.int .i64 0, .int .i64 0, .int .i64 0], .bool false]) (by simp [results, Tryd.results6, go_sem]) rfl ⟨rfl, ?_⟩
    exact (Below.refl _ _).alloc (Nat.le_refl _) _
  · have hp : 0 ≤ a := by omega
    go_enter Tryd.func6, Tryd.ntmps6
    go_wp2
    refine bodyPost_ret (v := .tuple #[.agg #[.int .i64 0, .int .i64 0, .int .i64 0], .bool false]) (by simp [results, Tryd.results6, go_sem]) rfl ⟨rfl, ?_⟩
    exact (Below.refl _ _).alloc (Nat.le_refl _) _
/-- A block's cells as the walk asks for them. -/
theorem blk3 {w : World} {g : Nat} {x y z : Value} {t : TypeId} (h : w.heap[g]? = some (.cells #[x, y, z] t (0, 0))) :
    w.cell? ⟨g, 0, none⟩ = some x ∧ w.cell? ⟨g, 1, none⟩ = some y ∧ w.cell? ⟨g, 2, none⟩ = some z ∧ w.frozen? ⟨g, 0, none⟩ = false ∧ w.frozen? ⟨g, 1, none⟩ = false ∧ w.frozen? ⟨g, 2, none⟩ = false := by
  simp [World.cell?, World.frozen?, h]

theorem next_yes (b off n cap : Nat) (f : Nat → Int) (a : Nat) (w : World) (hc : ∀ i, i < n → w.cell? ⟨b, off + i, none⟩ = some (.int .u8 (f i)))
    (ha : a < n) (hn : n ≤ 9223372036854775807) (hf : ∀ i, 0 ≤ f i ∧ f i ≤ 255) :
    Calls Tryd.prog 6 #[.slice (some ⟨b, off, none⟩) n cap, .int .i64 a] w fun e w' =>
      e = .returned (.tuple #[.agg #[.int .i64 (it f n a).1, .int .i64 a, .int .i64 (it f n a).2.1], .bool true]) ∧ Below w.heap.size w w' := by
  have IT := item_any b off n cap f a (w.alloc (.cells #[.int .i64 0, .int .i64 0, .int .i64 0] 26)) (cells_alloc hc _) ha hn hf
  have HB0 := (Below.refl w.heap.size w).alloc (Nat.le_refl _) (.cells #[.int .i64 0, .int .i64 0, .int .i64 0] 26)
  have HG : Hid ((w.alloc (.cells #[.int .i64 0, .int .i64 0, .int .i64 0] 26)).heap[w.heap.size]? = some (.cells #[.int .i64 0, .int .i64 0, .int .i64 0] 26 (0, 0))) := heap_alloc_new w _
  clear hc hf
  generalize (it f n a).2.2 = K at *
  generalize (it f n a).2.1 = E at *
  generalize (it f n a).1 = R at *
  go_enter Tryd.func6, Tryd.ntmps6
  go_wp2_with fail
  refine IT.mono ?_
  rintro e w1 ⟨rfl, hb1⟩
  have hs := hb1.size
  simp only [World.size_alloc] at hs
  obtain ⟨g0, g1, g2, z0, z1, z2⟩ := blk3 ((hb1.block w.heap.size (by simp)).trans HG.out)
  have R2 := HB0.trans (hb1.mono (by simp))
  have hlt : w.heap.size < w1.heap.size := by omega
  clear IT HG hb1 HB0
  have R3 := ((R2.setCell (p := ⟨w.heap.size, 0, none⟩) (Nat.le_refl _) (.int .i64 R)).setCell (p := ⟨w.heap.size, 1, none⟩) (Nat.le_refl _) (.int .i64 a)).setCell (p := ⟨w.heap.size, 2, none⟩) (Nat.le_refl _) (.int .i64 E)
  have R4 := R3.alloc R3.size (.cells #[.int .i64 R, .int .i64 a, .int .i64 E] 26)
  clear R2 R3
  go_wp2
  refine bodyPost_ret (v := .tuple #[.agg #[.int .i64 R, .int .i64 a, .int .i64 E], .bool true]) (by simp [results, Tryd.results6, go_sem, g0, g1, g2, hlt]) rfl ⟨rfl, R4⟩

end Go.Proofs.YtamcaomenbgabaaDoor.utf
