/- taken of package width: what a node takes whose kids take that. -/
import Derived.Test.YtjblccgkocknbaaWidTimes
set_option linter.unusedVariables false
set_option linter.unusedSimpArgs false
namespace Go.Proofs.Ytjblccgkocknbaa.wid
open Go.RowKit
open Go.Proofs.Ytjblccgkocknbaa.nod
open Go.Proofs.Ytjblccgkocknbaa.rng (R RV ret_int ret_bool below_drewN info_parts own_below')
set_option maxHeartbeats 2000000 in
theorem taken_set (m a b : Int) (g : Bool) (n : ByteArray) (sv kv : Value) (ao : Option Addr) (cap : Nat) (l : List R) (w : World) (hv : RV w ao l) (hl : l.length ≤ 9223372036854775807) (hok : ∀ x ∈ l, Ok x) :
    Calls Try.prog 18 #[.agg #[.int .i64 15, .int .i64 m, .int .i64 a, .int .i64 b, .bool g, .string n, sv, kv], .slice ao l.length cap] w fun e w' => e = .returned (agg2 (((1, 1) : R))) ∧ Below w.heap.size w w' := by
  generalize l.length = ln at *
  clear hv hok
  go_enter Try.func18, Try.ntmps18
  go_wp2
  refine bodyPost_ret (results_cell_row Try.results18 _ _ (w.heap.size + 1) _ #[.int .i64 (1), .int .i64 (1)] _ _ rfl bk2 Try.underlying39 rfl infoAmount) rfl ?_
  exact ⟨rfl, below2 _ _ _⟩
set_option maxHeartbeats 2000000 in
theorem taken_back (m a b : Int) (g : Bool) (n : ByteArray) (sv kv : Value) (ao : Option Addr) (cap : Nat) (l : List R) (w : World) (hv : RV w ao l) (hl : l.length ≤ 9223372036854775807) (hok : ∀ x ∈ l, Ok x) :
    Calls Try.prog 18 #[.agg #[.int .i64 13, .int .i64 m, .int .i64 a, .int .i64 b, .bool g, .string n, sv, kv], .slice ao l.length cap] w fun e w' => e = .returned (agg2 (((0, -1) : R))) ∧ Below w.heap.size w w' := by
  generalize l.length = ln at *
  clear hv hok
  go_enter Try.func18, Try.ntmps18
  go_wp2
  refine bodyPost_ret (results_cell_row Try.results18 _ _ (w.heap.size + 1) _ #[.int .i64 (0), .int .i64 (-1)] _ _ rfl bk2 Try.underlying39 rfl infoAmount) rfl ?_
  exact ⟨rfl, below2 _ _ _⟩
set_option maxHeartbeats 2000000 in
theorem taken_cluster (m a b : Int) (g : Bool) (n : ByteArray) (sv kv : Value) (ao : Option Addr) (cap : Nat) (l : List R) (w : World) (hv : RV w ao l) (hl : l.length ≤ 9223372036854775807) (hok : ∀ x ∈ l, Ok x) :
    Calls Try.prog 18 #[.agg #[.int .i64 14, .int .i64 m, .int .i64 a, .int .i64 b, .bool g, .string n, sv, kv], .slice ao l.length cap] w fun e w' => e = .returned (agg2 (((1, -1) : R))) ∧ Below w.heap.size w w' := by
  generalize l.length = ln at *
  clear hv hok
  go_enter Try.func18, Try.ntmps18
  go_wp2
  refine bodyPost_ret (results_cell_row Try.results18 _ _ (w.heap.size + 1) _ #[.int .i64 (1), .int .i64 (-1)] _ _ rfl bk2 Try.underlying39 rfl infoAmount) rfl ?_
  exact ⟨rfl, below2 _ _ _⟩
set_option maxHeartbeats 2000000 in
theorem taken_none (k : Int) (m a b : Int) (g : Bool) (n : ByteArray) (sv kv : Value) (ao : Option Addr) (cap : Nat) (l : List R) (w : World) (hv : RV w ao l) (hl : l.length ≤ 9223372036854775807) (hok : ∀ x ∈ l, Ok x) (f15 : (k == 15) = false) (f6 : (k == 6) = false) (f7 : (k == 7) = false) (f8 : (k == 8) = false) (f9 : (k == 9) = false) (f11 : (k == 11) = false) (f13 : (k == 13) = false) (f14 : (k == 14) = false) :
    Calls Try.prog 18 #[.agg #[.int .i64 k, .int .i64 m, .int .i64 a, .int .i64 b, .bool g, .string n, sv, kv], .slice ao l.length cap] w fun e w' => e = .returned (agg2 (((0, 0) : R))) ∧ Below w.heap.size w w' := by
  generalize l.length = ln at *
  clear hv hok
  go_enter Try.func18, Try.ntmps18
  go_wp2
  refine bodyPost_ret (results_cell_row Try.results18 _ _ (w.heap.size + 1) _ #[.int .i64 (0), .int .i64 (0)] _ _ rfl bk2 Try.underlying39 rfl infoAmount) rfl ?_
  exact ⟨rfl, below2 _ _ _⟩
set_option maxHeartbeats 2000000 in
theorem taken_seq (m a b : Int) (g : Bool) (n : ByteArray) (sv kv : Value) (ao : Option Addr) (cap : Nat) (l : List R) (w : World) (hv : RV w ao l) (hl : l.length ≤ 9223372036854775807) (hok : ∀ x ∈ l, Ok x) :
    Calls Try.prog 18 #[.agg #[.int .i64 6, .int .i64 m, .int .i64 a, .int .i64 b, .bool g, .string n, sv, kv], .slice ao l.length cap] w fun e w' => e = .returned (agg2 (l.foldl plusA (0, 0))) ∧ Below w.heap.size w w' := by
  have C := together_any ao cap l ((w.alloc (.cells #[.int .i64 6, .int .i64 m, .int .i64 a, .int .i64 b, .bool g, .string n, sv, kv] 25)).alloc (.cells #[.int .i64 0, .int .i64 0] 39)) (hv.below (below2 _ _ _)) hl hok
  have HB : Hid (Below w.heap.size w ((w.alloc (.cells #[.int .i64 6, .int .i64 m, .int .i64 a, .int .i64 b, .bool g, .string n, sv, kv] 25)).alloc (.cells #[.int .i64 0, .int .i64 0] 39))) := below2 _ _ _
  have HR : Hid (Bk ((w.alloc (.cells #[.int .i64 6, .int .i64 m, .int .i64 a, .int .i64 b, .bool g, .string n, sv, kv] 25)).alloc (.cells #[.int .i64 0, .int .i64 0] 39)) (w.heap.size + 1) #[.int .i64 0, .int .i64 0] 39) := bk2
  obtain ⟨r, hr⟩ : ∃ r, l.foldl plusA (0, 0) = r := ⟨_, rfl⟩
  obtain ⟨r1, r2⟩ := r
  have HV : Hid (l.foldl plusA (0, 0) = (r1, r2)) := hr
  rw [hr] at C
  generalize l.length = ln at *
  clear hv hok hr
  go_enter Try.func18, Try.ntmps18
  go_wp2_with (go_at_call 28; refine C.mono ?_; rintro e w1 ⟨rfl, d⟩; have b0 := HR.out.keep d (by simp); have c0 := b0.cell 0 (u := .int .i64 0) rfl; have c1 := b0.cell 1 (u := .int .i64 0) rfl; have c2 := b0.frozen 0; have c3 := b0.frozen 1; have HR2 : Hid (Bk w1 (w.heap.size + 1) #[.int .i64 0, .int .i64 0] 39) := b0; have HF : Hid (∀ X Y, Below w.heap.size w ((w1.setCell ⟨w.heap.size + 1, 0, none⟩ X).setCell ⟨w.heap.size + 1, 1, none⟩ Y)) := fun X Y => ((HB.out.trans (below_less d (by simp; omega))).setCell (p := ⟨w.heap.size + 1, 0, none⟩) (by simp) X).setCell (p := ⟨w.heap.size + 1, 1, none⟩) (by simp) Y; clear d b0)
  refine bodyPost_ret (results_cell_row Try.results18 _ _ (w.heap.size + 1) _ #[.int .i64 r1, .int .i64 r2] _ _ rfl (HR2.out.set2 _ _) Try.underlying39 rfl infoAmount) rfl ?_
  exact ⟨by rw [HV.out], HF.out _ _⟩
set_option maxHeartbeats 2000000 in
theorem taken_alt (m a b : Int) (g : Bool) (n : ByteArray) (sv kv : Value) (ao : Option Addr) (cap : Nat) (l : List R) (w : World) (hv : RV w ao l) (hl : l.length ≤ 9223372036854775807) (hok : ∀ x ∈ l, Ok x) :
    Calls Try.prog 18 #[.agg #[.int .i64 7, .int .i64 m, .int .i64 a, .int .i64 b, .bool g, .string n, sv, kv], .slice ao l.length cap] w fun e w' => e = .returned (agg2 (l.foldl orA (only l))) ∧ Below w.heap.size w w' := by
  have C := either_any ao cap l ((w.alloc (.cells #[.int .i64 7, .int .i64 m, .int .i64 a, .int .i64 b, .bool g, .string n, sv, kv] 25)).alloc (.cells #[.int .i64 0, .int .i64 0] 39)) (hv.below (below2 _ _ _)) hl hok
  have HB : Hid (Below w.heap.size w ((w.alloc (.cells #[.int .i64 7, .int .i64 m, .int .i64 a, .int .i64 b, .bool g, .string n, sv, kv] 25)).alloc (.cells #[.int .i64 0, .int .i64 0] 39))) := below2 _ _ _
  have HR : Hid (Bk ((w.alloc (.cells #[.int .i64 7, .int .i64 m, .int .i64 a, .int .i64 b, .bool g, .string n, sv, kv] 25)).alloc (.cells #[.int .i64 0, .int .i64 0] 39)) (w.heap.size + 1) #[.int .i64 0, .int .i64 0] 39) := bk2
  obtain ⟨r, hr⟩ : ∃ r, l.foldl orA (only l) = r := ⟨_, rfl⟩
  obtain ⟨r1, r2⟩ := r
  have HV : Hid (l.foldl orA (only l) = (r1, r2)) := hr
  rw [hr] at C
  generalize l.length = ln at *
  clear hv hok hr
  go_enter Try.func18, Try.ntmps18
  go_wp2_with (go_at_call 29; refine C.mono ?_; rintro e w1 ⟨rfl, d⟩; have b0 := HR.out.keep d (by simp); have c0 := b0.cell 0 (u := .int .i64 0) rfl; have c1 := b0.cell 1 (u := .int .i64 0) rfl; have c2 := b0.frozen 0; have c3 := b0.frozen 1; have HR2 : Hid (Bk w1 (w.heap.size + 1) #[.int .i64 0, .int .i64 0] 39) := b0; have HF : Hid (∀ X Y, Below w.heap.size w ((w1.setCell ⟨w.heap.size + 1, 0, none⟩ X).setCell ⟨w.heap.size + 1, 1, none⟩ Y)) := fun X Y => ((HB.out.trans (below_less d (by simp; omega))).setCell (p := ⟨w.heap.size + 1, 0, none⟩) (by simp) X).setCell (p := ⟨w.heap.size + 1, 1, none⟩) (by simp) Y; clear d b0)
  refine bodyPost_ret (results_cell_row Try.results18 _ _ (w.heap.size + 1) _ #[.int .i64 r1, .int .i64 r2] _ _ rfl (HR2.out.set2 _ _) Try.underlying39 rfl infoAmount) rfl ?_
  exact ⟨by rw [HV.out], HF.out _ _⟩
set_option maxHeartbeats 2000000 in
theorem taken_group (m a b : Int) (g : Bool) (n : ByteArray) (sv kv : Value) (ao : Option Addr) (cap : Nat) (l : List R) (w : World) (hv : RV w ao l) (hl : l.length ≤ 9223372036854775807) (hok : ∀ x ∈ l, Ok x) :
    Calls Try.prog 18 #[.agg #[.int .i64 9, .int .i64 m, .int .i64 a, .int .i64 b, .bool g, .string n, sv, kv], .slice ao l.length cap] w fun e w' => e = .returned (agg2 (only l)) ∧ Below w.heap.size w w' := by
  have C := only_any ao cap l ((w.alloc (.cells #[.int .i64 9, .int .i64 m, .int .i64 a, .int .i64 b, .bool g, .string n, sv, kv] 25)).alloc (.cells #[.int .i64 0, .int .i64 0] 39)) (hv.below (below2 _ _ _)) hl
  have HB : Hid (Below w.heap.size w ((w.alloc (.cells #[.int .i64 9, .int .i64 m, .int .i64 a, .int .i64 b, .bool g, .string n, sv, kv] 25)).alloc (.cells #[.int .i64 0, .int .i64 0] 39))) := below2 _ _ _
  have HR : Hid (Bk ((w.alloc (.cells #[.int .i64 9, .int .i64 m, .int .i64 a, .int .i64 b, .bool g, .string n, sv, kv] 25)).alloc (.cells #[.int .i64 0, .int .i64 0] 39)) (w.heap.size + 1) #[.int .i64 0, .int .i64 0] 39) := bk2
  obtain ⟨r, hr⟩ : ∃ r, only l = r := ⟨_, rfl⟩
  obtain ⟨r1, r2⟩ := r
  have HV : Hid (only l = (r1, r2)) := hr
  rw [hr] at C
  generalize l.length = ln at *
  clear hv hok hr
  go_enter Try.func18, Try.ntmps18
  go_wp2_with (go_at_call 25; refine C.mono ?_; rintro e w1 ⟨rfl, d⟩; have b0 := HR.out.keep d (by simp); have c0 := b0.cell 0 (u := .int .i64 0) rfl; have c1 := b0.cell 1 (u := .int .i64 0) rfl; have c2 := b0.frozen 0; have c3 := b0.frozen 1; have HR2 : Hid (Bk w1 (w.heap.size + 1) #[.int .i64 0, .int .i64 0] 39) := b0; have HF : Hid (∀ X Y, Below w.heap.size w ((w1.setCell ⟨w.heap.size + 1, 0, none⟩ X).setCell ⟨w.heap.size + 1, 1, none⟩ Y)) := fun X Y => ((HB.out.trans (below_less d (by simp; omega))).setCell (p := ⟨w.heap.size + 1, 0, none⟩) (by simp) X).setCell (p := ⟨w.heap.size + 1, 1, none⟩) (by simp) Y; clear d b0)
  refine bodyPost_ret (results_cell_row Try.results18 _ _ (w.heap.size + 1) _ #[.int .i64 r1, .int .i64 r2] _ _ rfl (HR2.out.set2 _ _) Try.underlying39 rfl infoAmount) rfl ?_
  exact ⟨by rw [HV.out], HF.out _ _⟩
set_option maxHeartbeats 2000000 in
theorem taken_atomic (m a b : Int) (g : Bool) (n : ByteArray) (sv kv : Value) (ao : Option Addr) (cap : Nat) (l : List R) (w : World) (hv : RV w ao l) (hl : l.length ≤ 9223372036854775807) (hok : ∀ x ∈ l, Ok x) :
    Calls Try.prog 18 #[.agg #[.int .i64 11, .int .i64 m, .int .i64 a, .int .i64 b, .bool g, .string n, sv, kv], .slice ao l.length cap] w fun e w' => e = .returned (agg2 (only l)) ∧ Below w.heap.size w w' := by
  have C := only_any ao cap l ((w.alloc (.cells #[.int .i64 11, .int .i64 m, .int .i64 a, .int .i64 b, .bool g, .string n, sv, kv] 25)).alloc (.cells #[.int .i64 0, .int .i64 0] 39)) (hv.below (below2 _ _ _)) hl
  have HB : Hid (Below w.heap.size w ((w.alloc (.cells #[.int .i64 11, .int .i64 m, .int .i64 a, .int .i64 b, .bool g, .string n, sv, kv] 25)).alloc (.cells #[.int .i64 0, .int .i64 0] 39))) := below2 _ _ _
  have HR : Hid (Bk ((w.alloc (.cells #[.int .i64 11, .int .i64 m, .int .i64 a, .int .i64 b, .bool g, .string n, sv, kv] 25)).alloc (.cells #[.int .i64 0, .int .i64 0] 39)) (w.heap.size + 1) #[.int .i64 0, .int .i64 0] 39) := bk2
  obtain ⟨r, hr⟩ : ∃ r, only l = r := ⟨_, rfl⟩
  obtain ⟨r1, r2⟩ := r
  have HV : Hid (only l = (r1, r2)) := hr
  rw [hr] at C
  generalize l.length = ln at *
  clear hv hok hr
  go_enter Try.func18, Try.ntmps18
  go_wp2_with (go_at_call 25; refine C.mono ?_; rintro e w1 ⟨rfl, d⟩; have b0 := HR.out.keep d (by simp); have c0 := b0.cell 0 (u := .int .i64 0) rfl; have c1 := b0.cell 1 (u := .int .i64 0) rfl; have c2 := b0.frozen 0; have c3 := b0.frozen 1; have HR2 : Hid (Bk w1 (w.heap.size + 1) #[.int .i64 0, .int .i64 0] 39) := b0; have HF : Hid (∀ X Y, Below w.heap.size w ((w1.setCell ⟨w.heap.size + 1, 0, none⟩ X).setCell ⟨w.heap.size + 1, 1, none⟩ Y)) := fun X Y => ((HB.out.trans (below_less d (by simp; omega))).setCell (p := ⟨w.heap.size + 1, 0, none⟩) (by simp) X).setCell (p := ⟨w.heap.size + 1, 1, none⟩) (by simp) Y; clear d b0)
  refine bodyPost_ret (results_cell_row Try.results18 _ _ (w.heap.size + 1) _ #[.int .i64 r1, .int .i64 r2] _ _ rfl (HR2.out.set2 _ _) Try.underlying39 rfl infoAmount) rfl ?_
  exact ⟨by rw [HV.out], HF.out _ _⟩
set_option maxHeartbeats 2000000 in
theorem taken_repeat (m a b : Int) (g : Bool) (n : ByteArray) (sv kv : Value) (ao : Option Addr) (cap : Nat) (l : List R) (w : World) (hv : RV w ao l) (hl : l.length ≤ 9223372036854775807) (hok : ∀ x ∈ l, Ok x) :
    Calls Try.prog 18 #[.agg #[.int .i64 8, .int .i64 m, .int .i64 a, .int .i64 b, .bool g, .string n, sv, kv], .slice ao l.length cap] w fun e w' => e = .returned (agg2 (timesA (only l) a b)) ∧ Below w.heap.size w w' := by
  have C : Hid (∀ W, Below ((w.alloc (.cells #[.int .i64 8, .int .i64 m, .int .i64 a, .int .i64 b, .bool g, .string n, sv, kv] 25)).alloc (.cells #[.int .i64 0, .int .i64 0] 39)).heap.size ((w.alloc (.cells #[.int .i64 8, .int .i64 m, .int .i64 a, .int .i64 b, .bool g, .string n, sv, kv] 25)).alloc (.cells #[.int .i64 0, .int .i64 0] 39)) W → Calls Try.prog 25 #[.slice ao l.length cap] W fun e w' => e = .returned (agg2 (only l)) ∧ Below ((w.alloc (.cells #[.int .i64 8, .int .i64 m, .int .i64 a, .int .i64 b, .bool g, .string n, sv, kv] 25)).alloc (.cells #[.int .i64 0, .int .i64 0] 39)).heap.size ((w.alloc (.cells #[.int .i64 8, .int .i64 m, .int .i64 a, .int .i64 b, .bool g, .string n, sv, kv] 25)).alloc (.cells #[.int .i64 0, .int .i64 0] 39)) w') := fun W hW =>
    (only_any ao cap l W ((hv.below (below2 _ _ _)).below hW) hl).mono (by rintro e w' ⟨rfl, d⟩; exact ⟨rfl, hW.trans (below_less d hW.size)⟩)
  obtain ⟨y, hy⟩ : ∃ y, only l = y := ⟨_, rfl⟩
  have T : Hid (∀ W, Below ((w.alloc (.cells #[.int .i64 8, .int .i64 m, .int .i64 a, .int .i64 b, .bool g, .string n, sv, kv] 25)).alloc (.cells #[.int .i64 0, .int .i64 0] 39)).heap.size ((w.alloc (.cells #[.int .i64 8, .int .i64 m, .int .i64 a, .int .i64 b, .bool g, .string n, sv, kv] 25)).alloc (.cells #[.int .i64 0, .int .i64 0] 39)) W → Calls Try.prog 30 #[agg2 y, .int .i64 a, .int .i64 b] W fun e w' => e = .returned (agg2 (timesA y a b)) ∧ Below ((w.alloc (.cells #[.int .i64 8, .int .i64 m, .int .i64 a, .int .i64 b, .bool g, .string n, sv, kv] 25)).alloc (.cells #[.int .i64 0, .int .i64 0] 39)).heap.size ((w.alloc (.cells #[.int .i64 8, .int .i64 m, .int .i64 a, .int .i64 b, .bool g, .string n, sv, kv] 25)).alloc (.cells #[.int .i64 0, .int .i64 0] 39)) w') := fun W hW =>
    (times_any y a b W (hy ▸ only_ok hok)).mono (by rintro e w' ⟨rfl, d⟩; exact ⟨rfl, hW.trans (below_less d hW.size)⟩)
  have HB : Hid (Below w.heap.size w ((w.alloc (.cells #[.int .i64 8, .int .i64 m, .int .i64 a, .int .i64 b, .bool g, .string n, sv, kv] 25)).alloc (.cells #[.int .i64 0, .int .i64 0] 39))) := below2 _ _ _
  have HR : Hid (Bk ((w.alloc (.cells #[.int .i64 8, .int .i64 m, .int .i64 a, .int .i64 b, .bool g, .string n, sv, kv] 25)).alloc (.cells #[.int .i64 0, .int .i64 0] 39)) (w.heap.size + 1) #[.int .i64 0, .int .i64 0] 39) := bk2
  have HX : Hid (Bk ((w.alloc (.cells #[.int .i64 8, .int .i64 m, .int .i64 a, .int .i64 b, .bool g, .string n, sv, kv] 25)).alloc (.cells #[.int .i64 0, .int .i64 0] 39)) w.heap.size #[.int .i64 8, .int .i64 m, .int .i64 a, .int .i64 b, .bool g, .string n, sv, kv] 25) := (Bk.new w _ _).past _
  obtain ⟨r, hr⟩ : ∃ r, timesA y a b = r := ⟨_, rfl⟩
  rw [hr] at T
  rw [hy] at C
  obtain ⟨r1, r2⟩ := r
  obtain ⟨y1, y2⟩ := y
  have HV : Hid (timesA (only l) a b = (r1, r2)) := by unfold Hid; rw [hy, hr]
  have hz : ((w.alloc (.cells #[.int .i64 8, .int .i64 m, .int .i64 a, .int .i64 b, .bool g, .string n, sv, kv] 25)).alloc (.cells #[.int .i64 0, .int .i64 0] 39)).heap.size = w.heap.size + 2 := by simp
  have HZ : Hid (((w.alloc (.cells #[.int .i64 8, .int .i64 m, .int .i64 a, .int .i64 b, .bool g, .string n, sv, kv] 25)).alloc (.cells #[.int .i64 0, .int .i64 0] 39)).heap.size = w.heap.size + 2) := hz
  generalize l.length = ln at *
  clear hv hok hr hz hy
  go_enter Try.func18, Try.ntmps18
  go_wp2
  go_region_with (first
    | (go_at_call 30; refine (T.out _ ?_).mono ?_; exact D.out; rintro e w2 ⟨rfl, d⟩; have b0 := HR.out.keep d (by rw [HZ.out]; omega); have c0 := b0.cell 0 (u := .int .i64 0) rfl; have c1 := b0.cell 1 (u := .int .i64 0) rfl; have c2 := b0.frozen 0; have c3 := b0.frozen 1; have HR2 : Hid (Bk w2 (w.heap.size + 1) #[.int .i64 0, .int .i64 0] 39) := b0; have HF : Hid (∀ X Y, Below w.heap.size w ((w2.setCell ⟨w.heap.size + 1, 0, none⟩ X).setCell ⟨w.heap.size + 1, 1, none⟩ Y)) := fun X Y => ((HB.out.trans (below_less d (by rw [HZ.out]; omega))).setCell (p := ⟨w.heap.size + 1, 0, none⟩) (by simp) X).setCell (p := ⟨w.heap.size + 1, 1, none⟩) (by simp) Y; clear d b0)
    | (go_at_call 25; refine (C.out _ ?_).mono ?_; exact ⟨rfl, rfl, rfl, Nat.le_refl _, fun _ _ => rfl⟩; rintro e w1 ⟨rfl, d⟩; have D : Hid (Below ((w.alloc (.cells #[.int .i64 8, .int .i64 m, .int .i64 a, .int .i64 b, .bool g, .string n, sv, kv] 25)).alloc (.cells #[.int .i64 0, .int .i64 0] 39)).heap.size ((w.alloc (.cells #[.int .i64 8, .int .i64 m, .int .i64 a, .int .i64 b, .bool g, .string n, sv, kv] 25)).alloc (.cells #[.int .i64 0, .int .i64 0] 39)) w1) := d; have x0 := HX.out.keep d (by rw [HZ.out]; omega); have x2 := x0.cell 2 (u := .int .i64 a) rfl; have x3 := x0.cell 3 (u := .int .i64 b) rfl; clear d x0))
  all_goals go_wp2
  all_goals refine bodyPost_ret (results_cell_row Try.results18 _ _ (w.heap.size + 1) _ #[.int .i64 r1, .int .i64 r2] _ _ rfl (HR2.out.set2 _ _) Try.underlying39 rfl infoAmount) rfl ?_
  all_goals exact ⟨by rw [HV.out], HF.out _ _⟩
theorem taken_any (k m a b : Int) (g : Bool) (n : ByteArray) (sv kv : Value) (ao : Option Addr) (cap : Nat) (l : List R) (w : World) (hv : RV w ao l) (hl : l.length ≤ 9223372036854775807) (hok : ∀ x ∈ l, Ok x) :
    Calls Try.prog 18 #[.agg #[.int .i64 k, .int .i64 m, .int .i64 a, .int .i64 b, .bool g, .string n, sv, kv], .slice ao l.length cap] w fun e w' => e = .returned (agg2 (takenA k a b l)) ∧ Below w.heap.size w w' := by
  by_cases c15 : k = 15
  · subst c15; rw [takenA, if_pos rfl]; exact taken_set m a b g n sv kv ao cap l w hv hl hok
  by_cases c6 : k = 6
  · subst c6; rw [takenA, if_neg (by decide), if_pos rfl]; exact taken_seq m a b g n sv kv ao cap l w hv hl hok
  by_cases c7 : k = 7
  · subst c7; rw [takenA, if_neg (by decide), if_neg (by decide), if_pos rfl]; exact taken_alt m a b g n sv kv ao cap l w hv hl hok
  by_cases c8 : k = 8
  · subst c8; rw [takenA, if_neg (by decide), if_neg (by decide), if_neg (by decide), if_pos rfl]; exact taken_repeat m a b g n sv kv ao cap l w hv hl hok
  by_cases c9 : k = 9
  · subst c9; rw [takenA, if_neg (by decide), if_neg (by decide), if_neg (by decide), if_neg (by decide), if_pos (by decide)]; exact taken_group m a b g n sv kv ao cap l w hv hl hok
  by_cases c11 : k = 11
  · subst c11; rw [takenA, if_neg (by decide), if_neg (by decide), if_neg (by decide), if_neg (by decide), if_pos (by decide)]; exact taken_atomic m a b g n sv kv ao cap l w hv hl hok
  by_cases c13 : k = 13
  · subst c13; rw [takenA, if_neg (by decide), if_neg (by decide), if_neg (by decide), if_neg (by decide), if_neg (by decide), if_pos rfl]; exact taken_back m a b g n sv kv ao cap l w hv hl hok
  by_cases c14 : k = 14
  · subst c14; rw [takenA, if_neg (by decide), if_neg (by decide), if_neg (by decide), if_neg (by decide), if_neg (by decide), if_neg (by decide), if_pos rfl]; exact taken_cluster m a b g n sv kv ao cap l w hv hl hok
  rw [takenA, if_neg c15, if_neg c6, if_neg c7, if_neg c8, if_neg (by omega), if_neg c13, if_neg c14]
  exact taken_none k m a b g n sv kv ao cap l w hv hl hok (by simpa using c15) (by simpa using c6) (by simpa using c7) (by simpa using c8) (by simpa using c9) (by simpa using c11) (by simpa using c13) (by simpa using c14)
end Go.Proofs.Ytjblccgkocknbaa.wid
