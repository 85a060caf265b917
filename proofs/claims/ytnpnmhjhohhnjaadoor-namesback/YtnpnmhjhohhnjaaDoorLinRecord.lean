/- What lines.recordOf answers of any fields: the record that they say, if they say one. -/
import Derived.Test.YtnpnmhjhohhnjaaDoorLinBounds
import Derived.Laws.ResultCell
import Derived.WalkSmall
import Derived.Handy
set_option linter.unusedVariables false
set_option linter.unusedSimpArgs false
namespace Go.Proofs.YtnpnmhjhohhnjaaDoor.lin
open Go.RowKit

/-- Whether fields say a record; its value, where they lie in block g. -/
def recB (fs : List ByteArray) : Bool := decide (2 ≤ fs.length) && boundsB (fs.headD ByteArray.empty)
def recAgg (fs : List ByteArray) (g cap : Nat) : Value :=
  if recB fs then .agg #[.int .i64 (boundsLo (fs.headD ByteArray.empty)), .int .i64 (boundsHi (fs.headD ByteArray.empty)), .slice (some ⟨g, 1, none⟩) (fs.length - 1) (cap - 1)] else .agg #[.int .i64 0, .int .i64 0, .slice none 0 0]

theorem results_row_tmp {P : Program} {fn : Func} {p u : Tmp} {ty : TypeId} (h : fn.results = #[.cell p ty, .tmp u]) (tmps : Array Value) (w : World) (g : Nat) (t : TypeId) (cs : Array Value) (fr : Nat × Nat) (d : TypeDesc)
    (hp : tmps.getD p undef = .pointer (some ⟨g, 0, none⟩)) (hg : w.heap[g]? = some (.cells cs t fr)) (hu : P.underlying ty = some d) (hd : (match d with | .struct _ | .array _ _ => true | _ => false) = true) (hi : (P.info? ty).map (·.size) = some cs.size) :
    (results fn tmps).run P w = .ok (.tuple #[.agg cs, tmps.getD u undef]) w := by
  rw [results_cell_tmp h, hp]
  simp [asAddr, run_loadVar_row w g t ty cs fr d hg hu hd hi, Result.andThen]
theorem row3_set {w : World} {g : Nat} {t : TypeId} {a b c : Value} (h : w.heap[g]? = some (.cells #[a, b, c] t)) (x y z : Value) :
    (((w.setCell ⟨g, 0, none⟩ x).setCell ⟨g, 1, none⟩ y).setCell ⟨g, 2, none⟩ z).heap[g]? = some (.cells #[x, y, z] t) := by
  have h1 := heap_setCell_same w g 0 _ t x h
  have h2 := heap_setCell_same _ g 1 _ t y h1
  have h3 := heap_setCell_same _ g 2 _ t z h2
  simpa using h3
theorem below3_set {w w1 : World} (h : Below w.heap.size w w1) (x y z : Value) :
    Below w.heap.size w (((w1.setCell ⟨w.heap.size, 0, none⟩ x).setCell ⟨w.heap.size, 1, none⟩ y).setCell ⟨w.heap.size, 2, none⟩ z) :=
  ((h.setCell (p := ⟨w.heap.size, 0, none⟩) (Nat.le_refl _) x).setCell (p := ⟨w.heap.size, 1, none⟩) (Nat.le_refl _) y).setCell (p := ⟨w.heap.size, 2, none⟩) (Nat.le_refl _) z
theorem recB_cons (f : ByteArray) (fs : List ByteArray) : recB (f :: fs) = (decide (1 ≤ fs.length) && boundsB f) := by
  show (decide (2 ≤ fs.length + 1) && boundsB f) = _
  congr 1
  exact decide_eq_decide.2 ⟨fun h => by omega, fun h => by omega⟩
theorem recAgg_cons (f : ByteArray) (fs : List ByteArray) (g cap : Nat) : recAgg (f :: fs) g cap =
    if (decide (1 ≤ fs.length) && boundsB f) then .agg #[.int .i64 (boundsLo f), .int .i64 (boundsHi f), .slice (some ⟨g, 1, none⟩) fs.length (cap - 1)] else .agg #[.int .i64 0, .int .i64 0, .slice none 0 0] := by
  unfold recAgg
  rw [recB_cons]
  rfl

end Go.Proofs.YtnpnmhjhohhnjaaDoor.lin
