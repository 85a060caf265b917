/- What lines.recordOf answers of any fields: the record that they say, if they say one. -/
import Derived.Test.YtciblkmbkdhdiaaDoorLinBounds
import Derived.Laws.ResultCell
import Derived.WalkSmall
import Derived.Handy
set_option linter.unusedVariables false
set_option linter.unusedSimpArgs false
namespace Go.Proofs.YtciblkmbkdhdiaaDoor.lin
open Go.RowKit

/-- Whether fields say a record; its value, where they lie in block g. -/
def recB (fs : List ByteArray) : Bool := decide (2 ≤ fs.length) && boundsB (fs.headD ByteArray.empty)
def recAgg (fs : List ByteArray) (g cap : Nat) : Value :=
  if recB fs then .agg #[.int .i64 (boundsLo (fs.headD ByteArray.empty)), .int .i64 (boundsHi (fs.headD ByteArray.empty)), .slice (some ⟨g, 1, none⟩) (fs.length - 1) (cap - 1)] else .agg #[.int .i64 0, .int .i64 0, .slice none 0 0]

theorem results_row_tmp {P : Program} {fn : Func} {p u : Tmp} {ty : TypeId} (h : fn.results = #[.cell p ty, .tmp u]) (tmps : Array Value) (w : World) (g : Nat) (t : TypeId) (cs : Array Value) (fr : Nat × Nat) (d : TypeDesc)
    (hp : tmps.getD p undef = .pointer (some ⟨g, 0, none⟩)) (hg : w.heap[g]? = some (.cells cs t fr)) (hu : P.underlying ty = some d) (hd : (match d with | .struct _ | .array _ _ => true | _ => false) = true) (hi : (P.info? ty).map (·.size) = some cs.size) :
    (results fn tmps).run P w = .ok (.tuple #[.agg cs, tmps.getD u undef]) w := by
  rw [results_cell_tmp h, hp]
  simp [asAddr, run_loadVar_row w g t ty cs fr d hg hu hd hi, Result.andThen]
theorem row3_set {w : World} {g : Nat} {t : TypeId} {a b c : Value} (h : w.heap[g]? = some (.cells #[a, b, c] t)) (x y z : Value) :
    (((w.setCell ⟨g, 0, none⟩ x).setCell ⟨g, 1, none⟩ y).setCell ⟨g, 2, none⟩ z).heap[g]? = some (.cells #[x, y, z] t) := by
  have h1 := heap_setCell_same w g 0 _ t x h
  have h2 := heap_setCell_same _ g 1 _ t y h1
  have h3 := heap_setCell_same _ g 2 _ t z h2
  simpa using h3
theorem below3_set {w w1 : World} (h : Below w.heap.size w w1) (x y z : Value) :
    Below w.heap.size w (((w1.setCell ⟨w.heap.size, 0, none⟩ x).setCell ⟨w.heap.size, 1, none⟩ y).setCell ⟨w.heap.size, 2, none⟩ z) :=
  ((h.setCell (p := ⟨w.heap.size, 0, none⟩) (Nat.le_refl _) x).setCell (p := ⟨w.heap.size, 1, none⟩) (Nat.le_refl _) y).setCell (p := ⟨w.heap.size, 2, none⟩) (Nat.le_refl _) z
theorem infoRec : (Tryd.prog.info? 42).map (·.size) = some 3 := by kernel_rfl

theorem recB_cons (f : ByteArray) (fs : List ByteArray) : recB (f :: fs) = (decide (1 ≤ fs.length) && boundsB f) := by
  show (decide (2 ≤ fs.length + 1) && boundsB f) = _
  congr 1
  exact decide_eq_decide.2 ⟨fun h => by omega, fun h => by omega⟩
theorem recAgg_cons (f : ByteArray) (fs : List ByteArray) (g cap : Nat) : recAgg (f :: fs) g cap =
    if (decide (1 ≤ fs.length) && boundsB f) then .agg #[.int .i64 (boundsLo f), .int .i64 (boundsHi f), .slice (some ⟨g, 1, none⟩) fs.length (cap - 1)] else .agg #[.int .i64 0, .int .i64 0, .slice none 0 0] := by
  unfold recAgg
  rw [recB_cons]
  rfl

set_option maxHeartbeats 1000000 in
theorem record_any (f : ByteArray) (fs : List ByteArray) (g cap : Nat) (w : World) (m : Int) (hg : w.cell? ⟨g, 0, none⟩ = some (.string f)) (hsz : f.size ≤ 1073741824) (hn : fs.length + 1 ≤ cap) (hcap : cap ≤ maxLen)
    (hm : w.cell? ⟨2, 0, none⟩ = some (.int .i64 m)) (hm2 : 2 < w.heap.size) (hg2 : g < w.heap.size) :
    Calls Tryd.prog 25 #[.slice (some ⟨g, 0, none⟩) (fs.length + 1) cap] w fun e w' => e = .returned (.tuple #[recAgg (f :: fs) g cap, .bool (recB (f :: fs))]) ∧ Below w.heap.size w w' := by
  have hm1 : (w.alloc (.cells #[.int .i64 0, .int .i64 0, .slice none 0 0] 42)).cell? ⟨2, 0, none⟩ = some (.int .i64 m) := by
    rw [World.cell?_of_block (w := w) (Below.heap_alloc _ _ _ hm2)]; exact hm
  have BO := bounds_any f (w.alloc (.cells #[.int .i64 0, .int .i64 0, .slice none 0 0] 42)) m hsz hm1
  have hg1 : (w.alloc (.cells #[.int .i64 0, .int .i64 0, .slice none 0 0] 42)).cell? ⟨g, 0, none⟩ = some (.string f) := by
    rw [World.cell?_of_block (w := w) (Below.heap_alloc _ _ _ hg2)]; exact hg
  have HRA : Hid _ := recAgg_cons f fs g cap
  have HRB : Hid _ := recB_cons f fs
  generalize recAgg (f :: fs) g cap = RA at *
  generalize recB (f :: fs) = RB at *
  generalize boundsB f = ok at *
  generalize boundsLo f = lo at *
  generalize boundsHi f = hi at *
  go_enter Tryd.func25, Tryd.ntmps25
  go_wp2_with fail
  refine BO.mono ?_
  rintro e w1 ⟨rfl, hb1⟩
  have hrow : w1.heap[w.heap.size]? = some (.cells #[.int .i64 0, .int .i64 0, .slice none 0 0] 42) := (hb1.block _ (by simp)).trans (heap_alloc_new w _)
  have k0 := cell_of_row w1 w.heap.size 0 _ _ _ hrow
  have k1 := cell_of_row w1 w.heap.size 1 _ _ _ hrow
  have k2 := cell_of_row w1 w.heap.size 2 _ _ _ hrow
  have f0 := frozen_of_row w1 w.heap.size 0 _ _ hrow
  have f1 := frozen_of_row w1 w.heap.size 1 _ _ hrow
  have f2 := frozen_of_row w1 w.heap.size 2 _ _ hrow
  simp at k0 k1 k2
  have hbb : Below w.heap.size w w1 := ((Below.refl _ w).alloc (Nat.le_refl _) _).trans (hb1.mono (by simp))
  clear BO hm1 hg1 hb1
  cases ok with
  | false =>
    obtain rfl : RA = .agg #[.int .i64 0, .int .i64 0, .slice none 0 0] := by rw [HRA.out, if_neg (by simp)]
    obtain rfl : RB = false := by rw [HRB.out]; simp
    clear HRA HRB
    go_wp2
    refine bodyPost_ret (results_row_tmp Tryd.results25 _ _ w.heap.size _ _ _ _ rfl (row3_set hrow _ _ _) Tryd.underlying42 rfl infoRec) rfl ?_
    exact ⟨rfl, below3_set hbb _ _ _⟩
  | true =>
    by_cases h1 : 1 ≤ fs.length
    · have t1 : decide ((fs.length : Int) + 1 < 2) = false := by rw [decide_eq_false_iff_not]; omega
      obtain rfl : RA = .agg #[.int .i64 lo, .int .i64 hi, .slice (some ⟨g, 1, none⟩) fs.length (cap - 1)] := by rw [HRA.out, if_pos (by simp [h1])]
      obtain rfl : RB = true := by rw [HRB.out]; simp [h1]
      clear HRA HRB
      go_wp2
      refine bodyPost_ret (results_row_tmp Tryd.results25 _ _ w.heap.size _ _ _ _ rfl (row3_set hrow _ _ _) Tryd.underlying42 rfl infoRec) rfl ?_
      exact ⟨rfl, below3_set hbb _ _ _⟩
    · have t1 : decide ((fs.length : Int) + 1 < 2) = true := by rw [decide_eq_true_iff]; omega
      obtain rfl : RA = .agg #[.int .i64 0, .int .i64 0, .slice none 0 0] := by rw [HRA.out, if_neg (by simp [h1])]
      obtain rfl : RB = false := by rw [HRB.out]; simp [h1]
      clear HRA HRB
      go_wp2
      refine bodyPost_ret (results_row_tmp Tryd.results25 _ _ w.heap.size _ _ _ _ rfl (row3_set hrow _ _ _) Tryd.underlying42 rfl infoRec) rfl ?_
      exact ⟨rfl, below3_set hbb _ _ _⟩
end Go.Proofs.YtciblkmbkdhdiaaDoor.lin
