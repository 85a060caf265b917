/- Texts that the proof leans on, one behind the other. -/
import Derived.Test.YtjbcapnpknbbaaaGreatBndWidPure
import Derived.Deep.RegionHeld3
import Derived.Deep.RegionWith

section
/- times, taken and what else walk.Up is handed by package width. -/
set_option linter.unusedVariables false
set_option linter.unusedSimpArgs false
namespace Go.Proofs.YtjbcapnpknbbaaaGreat.wid
open Go.RowKit
open Go.Proofs.YtjbcapnpknbbaaaGreat.nod
open Go.Proofs.YtjbcapnpknbbaaaGreat.rng (R RV ret_int ret_bool below_drewN info_parts own_below')

theorem bk3 {w : World} {t2 : TypeId} {x y : Value} {o1 o3 : Obj} : Bk (((w.alloc o1).alloc (.cells #[x, y] t2)).alloc o3) (w.heap.size + 1) #[x, y] t2 := by
  have := (Bk.new (w.alloc o1) #[x, y] t2).past o3
  simpa using this
theorem below3 (w : World) (o1 o2 o3 : Obj) : Below w.heap.size w (((w.alloc o1).alloc o2).alloc o3) := (((Below.refl _ w).alloc (Nat.le_refl _) _).alloc (by simp) _).alloc (by simp; omega) _
set_option maxHeartbeats 2000000 in
theorem times_a (x1 l : Int) (m : Int) (w : World) (h1 : 0 ≤ x1) (h2 : x1 ≤ 1073741824) :
    Calls Tryz.prog 79 #[.agg #[.int .i64 x1, .int .i64 (0)], .int .i64 l, .int .i64 (m)] w fun e w' => e = .returned (agg2 (timesA (x1, 0) l (m))) ∧ Below w.heap.size w w' := by
  have C1 : Hid (∀ W, Calls Tryz.prog 92 #[.int .i64 x1, .int .i64 l] W fun e w' => e = .returned (.int .i64 (prod x1 l)) ∧ W = w') := fun W => (product_any x1 l W h1 h2).mono (by rintro e w' ⟨rfl, rfl⟩; exact ⟨rfl, rfl⟩)
  obtain ⟨P, hP⟩ : ∃ P, prod x1 l = P := ⟨_, rfl⟩
  rw [hP] at C1
  have HT : Hid (timesA (x1, 0) l (m) = (P, 0)) := by unfold Hid timesA; rw [← hP]; simp
  clear hP
  go_enter Tryz.func79, Tryz.ntmps79
  go_wp2_with ((go_at_call 92; refine (C1.out _).mono ?_; rintro e w1 ⟨rfl, rfl⟩))
  refine bodyPost_ret (results_cell_row Tryz.results79 _ _ (w.heap.size + 1) _ #[.int .i64 P, .int .i64 (0)] _ _ rfl bk3 Tryz.underlying88 rfl infoAmount) rfl ?_
  exact ⟨by rw [HT.out], below3 _ _ _ _⟩
set_option maxHeartbeats 2000000 in
theorem times_b (x1 l : Int) (x2 : Int) (w : World) (h1 : 0 ≤ x1) (h2 : x1 ≤ 1073741824) (f1 : (x2 == 0) = false) :
    Calls Tryz.prog 79 #[.agg #[.int .i64 x1, .int .i64 (x2)], .int .i64 l, .int .i64 (0)] w fun e w' => e = .returned (agg2 (timesA (x1, x2) l (0))) ∧ Below w.heap.size w w' := by
  have C1 : Hid (∀ W, Calls Tryz.prog 92 #[.int .i64 x1, .int .i64 l] W fun e w' => e = .returned (.int .i64 (prod x1 l)) ∧ W = w') := fun W => (product_any x1 l W h1 h2).mono (by rintro e w' ⟨rfl, rfl⟩; exact ⟨rfl, rfl⟩)
  obtain ⟨P, hP⟩ : ∃ P, prod x1 l = P := ⟨_, rfl⟩
  rw [hP] at C1
  have HT : Hid (timesA (x1, x2) l (0) = (P, 0)) := by unfold Hid timesA; rw [← hP]; simp
  clear hP
  go_enter Tryz.func79, Tryz.ntmps79
  go_wp2_with ((go_at_call 92; refine (C1.out _).mono ?_; rintro e w1 ⟨rfl, rfl⟩))
  refine bodyPost_ret (results_cell_row Tryz.results79 _ _ (w.heap.size + 1) _ #[.int .i64 P, .int .i64 (0)] _ _ rfl bk3 Tryz.underlying88 rfl infoAmount) rfl ?_
  exact ⟨by rw [HT.out], below3 _ _ _ _⟩
set_option maxHeartbeats 2000000 in
theorem times_c (x1 l : Int) (x2 : Int) (m : Int) (w : World) (h1 : 0 ≤ x1) (h2 : x1 ≤ 1073741824) (f1 : (x2 == 0) = false) (f2 : (m == 0) = false) (f3 : decide (m < -1) = true) :
    Calls Tryz.prog 79 #[.agg #[.int .i64 x1, .int .i64 (x2)], .int .i64 l, .int .i64 (m)] w fun e w' => e = .returned (agg2 (timesA (x1, x2) l (m))) ∧ Below w.heap.size w w' := by
  have C1 : Hid (∀ W, Calls Tryz.prog 92 #[.int .i64 x1, .int .i64 l] W fun e w' => e = .returned (.int .i64 (prod x1 l)) ∧ W = w') := fun W => (product_any x1 l W h1 h2).mono (by rintro e w' ⟨rfl, rfl⟩; exact ⟨rfl, rfl⟩)
  obtain ⟨P, hP⟩ : ∃ P, prod x1 l = P := ⟨_, rfl⟩
  rw [hP] at C1
  have HT : Hid (timesA (x1, x2) l (m) = (P, 0)) := by unfold Hid timesA; rw [← hP]; rw [if_pos (by simp at f3; omega)]
  clear hP
  go_enter Tryz.func79, Tryz.ntmps79
  go_wp2_with ((go_at_call 92; refine (C1.out _).mono ?_; rintro e w1 ⟨rfl, rfl⟩))
  refine bodyPost_ret (results_cell_row Tryz.results79 _ _ (w.heap.size + 1) _ #[.int .i64 P, .int .i64 (0)] _ _ rfl bk3 Tryz.underlying88 rfl infoAmount) rfl ?_
  exact ⟨by rw [HT.out], below3 _ _ _ _⟩
set_option maxHeartbeats 2000000 in
theorem times_d (x1 l : Int) (m : Int) (w : World) (h1 : 0 ≤ x1) (h2 : x1 ≤ 1073741824) (f2 : (m == 0) = false) (f3 : decide (m < -1) = false) :
    Calls Tryz.prog 79 #[.agg #[.int .i64 x1, .int .i64 (-1)], .int .i64 l, .int .i64 (m)] w fun e w' => e = .returned (agg2 (timesA (x1, -1) l (m))) ∧ Below w.heap.size w w' := by
  have C1 : Hid (∀ W, Calls Tryz.prog 92 #[.int .i64 x1, .int .i64 l] W fun e w' => e = .returned (.int .i64 (prod x1 l)) ∧ W = w') := fun W => (product_any x1 l W h1 h2).mono (by rintro e w' ⟨rfl, rfl⟩; exact ⟨rfl, rfl⟩)
  obtain ⟨P, hP⟩ : ∃ P, prod x1 l = P := ⟨_, rfl⟩
  rw [hP] at C1
  have HT : Hid (timesA (x1, -1) l (m) = (P, -1)) := by unfold Hid timesA; rw [← hP]; simp at f2 f3; rw [if_neg (by omega), if_pos (by simp)]
  clear hP
  go_enter Tryz.func79, Tryz.ntmps79
  go_wp2_with ((go_at_call 92; refine (C1.out _).mono ?_; rintro e w1 ⟨rfl, rfl⟩))
  refine bodyPost_ret (results_cell_row Tryz.results79 _ _ (w.heap.size + 1) _ #[.int .i64 P, .int .i64 (-1)] _ _ rfl bk3 Tryz.underlying88 rfl infoAmount) rfl ?_
  exact ⟨by rw [HT.out], below3 _ _ _ _⟩
set_option maxHeartbeats 2000000 in
theorem times_e (x1 l : Int) (x2 : Int) (w : World) (h1 : 0 ≤ x1) (h2 : x1 ≤ 1073741824) (f1 : (x2 == 0) = false) (f4 : (x2 == -1) = false) :
    Calls Tryz.prog 79 #[.agg #[.int .i64 x1, .int .i64 (x2)], .int .i64 l, .int .i64 (-1)] w fun e w' => e = .returned (agg2 (timesA (x1, x2) l (-1))) ∧ Below w.heap.size w w' := by
  have C1 : Hid (∀ W, Calls Tryz.prog 92 #[.int .i64 x1, .int .i64 l] W fun e w' => e = .returned (.int .i64 (prod x1 l)) ∧ W = w') := fun W => (product_any x1 l W h1 h2).mono (by rintro e w' ⟨rfl, rfl⟩; exact ⟨rfl, rfl⟩)
  obtain ⟨P, hP⟩ : ∃ P, prod x1 l = P := ⟨_, rfl⟩
  rw [hP] at C1
  have HT : Hid (timesA (x1, x2) l (-1) = (P, -1)) := by unfold Hid timesA; rw [← hP]; simp at f1; rw [if_neg (by omega), if_pos (by simp)]
  clear hP
  go_enter Tryz.func79, Tryz.ntmps79
  go_wp2_with ((go_at_call 92; refine (C1.out _).mono ?_; rintro e w1 ⟨rfl, rfl⟩))
  refine bodyPost_ret (results_cell_row Tryz.results79 _ _ (w.heap.size + 1) _ #[.int .i64 P, .int .i64 (-1)] _ _ rfl bk3 Tryz.underlying88 rfl infoAmount) rfl ?_
  exact ⟨by rw [HT.out], below3 _ _ _ _⟩
set_option maxHeartbeats 2000000 in
theorem times_f (x1 l : Int) (x2 : Int) (m : Int) (w : World) (h1 : 0 ≤ x1) (h2 : x1 ≤ 1073741824) (f1 : (x2 == 0) = false) (f2 : (m == 0) = false) (f3 : decide (m < -1) = false) (f4 : (x2 == -1) = false) (f5 : (m == -1) = false) (h3 : 0 ≤ x2) (h4 : x2 ≤ 1073741824) :
    Calls Tryz.prog 79 #[.agg #[.int .i64 x1, .int .i64 (x2)], .int .i64 l, .int .i64 (m)] w fun e w' => e = .returned (agg2 (timesA (x1, x2) l (m))) ∧ Below w.heap.size w w' := by
  have C1 : Hid (∀ W, Calls Tryz.prog 92 #[.int .i64 x1, .int .i64 l] W fun e w' => e = .returned (.int .i64 (prod x1 l)) ∧ W = w') := fun W => (product_any x1 l W h1 h2).mono (by rintro e w' ⟨rfl, rfl⟩; exact ⟨rfl, rfl⟩)
  obtain ⟨P, hP⟩ : ∃ P, prod x1 l = P := ⟨_, rfl⟩
  rw [hP] at C1
  have HT : Hid (timesA (x1, x2) l (m) = (P, prod x2 m)) := by unfold Hid timesA; rw [← hP]; simp at f1 f2 f3 f4 f5; rw [if_neg (by omega), if_neg (by omega)]
  clear hP
  have C2 : Hid (∀ W, Calls Tryz.prog 92 #[.int .i64 x2, .int .i64 m] W fun e w' => e = .returned (.int .i64 (prod x2 m)) ∧ W = w') := fun W => (product_any x2 m W (by omega) h4).mono (by rintro e w' ⟨rfl, rfl⟩; exact ⟨rfl, rfl⟩)
  obtain ⟨Q, hQ⟩ : ∃ Q, prod x2 m = Q := ⟨_, rfl⟩
  rw [hQ] at C2 HT
  go_enter Tryz.func79, Tryz.ntmps79
  go_wp2_with (first | (go_at_call_of 92 (Value.int IntKind.i64 x2); refine (C2.out _).mono ?_; rintro e w1 ⟨rfl, rfl⟩) | (go_at_call 92; refine (C1.out _).mono ?_; rintro e w1 ⟨rfl, rfl⟩))
  refine bodyPost_ret (results_cell_row Tryz.results79 _ _ (w.heap.size + 1) _ #[.int .i64 P, .int .i64 (Q)] _ _ rfl bk3 Tryz.underlying88 rfl infoAmount) rfl ?_
  exact ⟨by rw [HT.out], below3 _ _ _ _⟩
theorem times_any (x : R) (l m : Int) (w : World) (hx : Ok x) :
    Calls Tryz.prog 79 #[agg2 x, .int .i64 l, .int .i64 m] w fun e w' => e = .returned (agg2 (timesA x l m)) ∧ Below w.heap.size w w' := by
  obtain ⟨x1, x2⟩ := x
  obtain ⟨h1, h2, h3, h4⟩ := hx
  simp only at h1 h2 h3 h4
  by_cases a1 : x2 = 0
  · subst a1; exact times_a x1 l m w h1 h2
  have f1 : (x2 == 0) = false := by simpa using a1
  by_cases a2 : m = 0
  · subst a2; exact times_b x1 l x2 w h1 h2 f1
  have f2 : (m == 0) = false := by simpa using a2
  by_cases a3 : m < -1
  · exact times_c x1 l x2 m w h1 h2 f1 f2 (decide_eq_true a3)
  have f3 : decide (m < -1) = false := decide_eq_false a3
  by_cases a4 : x2 = -1
  · subst a4; exact times_d x1 l m w h1 h2 f2 f3
  have f4 : (x2 == -1) = false := by simpa using a4
  by_cases a5 : m = -1
  · subst a5; exact times_e x1 l x2 w h1 h2 f1 f4
  have f5 : (m == -1) = false := by simpa using a5
  exact times_f x1 l x2 m w h1 h2 f1 f2 f3 f4 f5 (by omega) h4


theorem everywhere_any (k m a b : Int) (g : Bool) (n : ByteArray) (sv kv : Value) (above : Int) (w : World) :
    Calls Tryz.prog 45 #[.agg #[.int .i64 k, .int .i64 m, .int .i64 a, .int .i64 b, .bool g, .string n, sv, kv], .int .i64 above] w fun e w' => e = .returned (.bool true) ∧ Below w.heap.size w w' := by
  have HB : Hid (Below w.heap.size w (w.alloc (.cells #[.int .i64 k, .int .i64 m, .int .i64 a, .int .i64 b, .bool g, .string n, sv, kv] 25))) := (Below.refl _ w).alloc (Nat.le_refl _) _
  go_enter Tryz.func45, Tryz.ntmps45
  go_wp2
  go_ret
  exact ⟨rfl, HB.out⟩
theorem looks_any (k m a b : Int) (g : Bool) (n : ByteArray) (sv kv : Value) (w : World) :
    Calls Tryz.prog 47 #[.agg #[.int .i64 k, .int .i64 m, .int .i64 a, .int .i64 b, .bool g, .string n, sv, kv]] w fun e w' => e = .returned (.bool (behind k m)) ∧ Below w.heap.size w w' := by
  have HB : Hid (Below w.heap.size w (w.alloc (.cells #[.int .i64 k, .int .i64 m, .int .i64 a, .int .i64 b, .bool g, .string n, sv, kv] 25))) := (Below.refl _ w).alloc (Nat.le_refl _) _
  by_cases c1 : k = 10
  · subst c1
    by_cases c2 : m = 2
    · subst c2
      go_enter Tryz.func47, Tryz.ntmps47
      go_wp2
      go_ret
      exact ⟨rfl, HB.out⟩
    · have c2' : (m == 2) = false := by simpa using c2
      have HE : Hid (behind 10 m = (m == 3)) := by unfold Hid behind; rw [c2']; rfl
      clear c2
      go_enter Tryz.func47, Tryz.ntmps47
      go_wp2
      go_ret
      exact ⟨by rw [HE.out]; rfl, HB.out⟩
  · have c1' : (k == 10) = false := by simpa using c1
    have HE : Hid (behind k m = false) := by unfold Hid behind; rw [c1']; rfl
    clear c1
    go_enter Tryz.func47, Tryz.ntmps47
    go_wp2
    go_ret
    exact ⟨by rw [HE.out]; rfl, HB.out⟩
end Go.Proofs.YtjbcapnpknbbaaaGreat.wid
end

section
/- taken of package width: what a node takes whose kids take that. -/
set_option linter.unusedVariables false
set_option linter.unusedSimpArgs false
namespace Go.Proofs.YtjbcapnpknbbaaaGreat.wid
open Go.RowKit
open Go.Proofs.YtjbcapnpknbbaaaGreat.nod
open Go.Proofs.YtjbcapnpknbbaaaGreat.rng (R RV ret_int ret_bool below_drewN info_parts own_below')
set_option maxHeartbeats 2000000 in
theorem taken_set (m a b : Int) (g : Bool) (n : ByteArray) (sv kv : Value) (ao : Option Addr) (cap : Nat) (l : List R) (w : World) (hv : RV w ao l) (hl : l.length ≤ 9223372036854775807) (hok : ∀ x ∈ l, Ok x) :
    Calls Tryz.prog 50 #[.agg #[.int .i64 15, .int .i64 m, .int .i64 a, .int .i64 b, .bool g, .string n, sv, kv], .slice ao l.length cap] w fun e w' => e = .returned (agg2 (((1, 1) : R))) ∧ Below w.heap.size w w' := by
  generalize l.length = ln at *
  clear hv hok
  go_enter Tryz.func50, Tryz.ntmps50
  go_wp2
  refine bodyPost_ret (results_cell_row Tryz.results50 _ _ (w.heap.size + 1) _ #[.int .i64 (1), .int .i64 (1)] _ _ rfl bk2 Tryz.underlying88 rfl infoAmount) rfl ?_
  exact ⟨rfl, below2 _ _ _⟩
set_option maxHeartbeats 2000000 in
theorem taken_back (m a b : Int) (g : Bool) (n : ByteArray) (sv kv : Value) (ao : Option Addr) (cap : Nat) (l : List R) (w : World) (hv : RV w ao l) (hl : l.length ≤ 9223372036854775807) (hok : ∀ x ∈ l, Ok x) :
    Calls Tryz.prog 50 #[.agg #[.int .i64 13, .int .i64 m, .int .i64 a, .int .i64 b, .bool g, .string n, sv, kv], .slice ao l.length cap] w fun e w' => e = .returned (agg2 (((0, -1) : R))) ∧ Below w.heap.size w w' := by
  generalize l.length = ln at *
  clear hv hok
  go_enter Tryz.func50, Tryz.ntmps50
  go_wp2
  refine bodyPost_ret (results_cell_row Tryz.results50 _ _ (w.heap.size + 1) _ #[.int .i64 (0), .int .i64 (-1)] _ _ rfl bk2 Tryz.underlying88 rfl infoAmount) rfl ?_
  exact ⟨rfl, below2 _ _ _⟩
set_option maxHeartbeats 2000000 in
theorem taken_cluster (m a b : Int) (g : Bool) (n : ByteArray) (sv kv : Value) (ao : Option Addr) (cap : Nat) (l : List R) (w : World) (hv : RV w ao l) (hl : l.length ≤ 9223372036854775807) (hok : ∀ x ∈ l, Ok x) :
    Calls Tryz.prog 50 #[.agg #[.int .i64 14, .int .i64 m, .int .i64 a, .int .i64 b, .bool g, .string n, sv, kv], .slice ao l.length cap] w fun e w' => e = .returned (agg2 (((1, -1) : R))) ∧ Below w.heap.size w w' := by
  generalize l.length = ln at *
  clear hv hok
  go_enter Tryz.func50, Tryz.ntmps50
  go_wp2
  refine bodyPost_ret (results_cell_row Tryz.results50 _ _ (w.heap.size + 1) _ #[.int .i64 (1), .int .i64 (-1)] _ _ rfl bk2 Tryz.underlying88 rfl infoAmount) rfl ?_
  exact ⟨rfl, below2 _ _ _⟩
set_option maxHeartbeats 2000000 in
theorem taken_none (k : Int) (m a b : Int) (g : Bool) (n : ByteArray) (sv kv : Value) (ao : Option Addr) (cap : Nat) (l : List R) (w : World) (hv : RV w ao l) (hl : l.length ≤ 9223372036854775807) (hok : ∀ x ∈ l, Ok x) (f15 : (k == 15) = false) (f6 : (k == 6) = false) (f7 : (k == 7) = false) (f8 : (k == 8) = false) (f9 : (k == 9) = false) (f11 : (k == 11) = false) (f13 : (k == 13) = false) (f14 : (k == 14) = false) :
    Calls Tryz.prog 50 #[.agg #[.int .i64 k, .int .i64 m, .int .i64 a, .int .i64 b, .bool g, .string n, sv, kv], .slice ao l.length cap] w fun e w' => e = .returned (agg2 (((0, 0) : R))) ∧ Below w.heap.size w w' := by
  generalize l.length = ln at *
  clear hv hok
  go_enter Tryz.func50, Tryz.ntmps50
  go_wp2
  refine bodyPost_ret (results_cell_row Tryz.results50 _ _ (w.heap.size + 1) _ #[.int .i64 (0), .int .i64 (0)] _ _ rfl bk2 Tryz.underlying88 rfl infoAmount) rfl ?_
  exact ⟨rfl, below2 _ _ _⟩
set_option maxHeartbeats 2000000 in
theorem taken_seq (m a b : Int) (g : Bool) (n : ByteArray) (sv kv : Value) (ao : Option Addr) (cap : Nat) (l : List R) (w : World) (hv : RV w ao l) (hl : l.length ≤ 9223372036854775807) (hok : ∀ x ∈ l, Ok x) :
    Calls Tryz.prog 50 #[.agg #[.int .i64 6, .int .i64 m, .int .i64 a, .int .i64 b, .bool g, .string n, sv, kv], .slice ao l.length cap] w fun e w' => e = .returned (agg2 (l.foldl plusA (0, 0))) ∧ Below w.heap.size w w' := by
  have C := together_any ao cap l ((w.alloc (.cells #[.int .i64 6, .int .i64 m, .int .i64 a, .int .i64 b, .bool g, .string n, sv, kv] 25)).alloc (.cells #[.int .i64 0, .int .i64 0] 88)) (hv.below (below2 _ _ _)) hl hok
  have HB : Hid (Below w.heap.size w ((w.alloc (.cells #[.int .i64 6, .int .i64 m, .int .i64 a, .int .i64 b, .bool g, .string n, sv, kv] 25)).alloc (.cells #[.int .i64 0, .int .i64 0] 88))) := below2 _ _ _
  have HR : Hid (Bk ((w.alloc (.cells #[.int .i64 6, .int .i64 m, .int .i64 a, .int .i64 b, .bool g, .string n, sv, kv] 25)).alloc (.cells #[.int .i64 0, .int .i64 0] 88)) (w.heap.size + 1) #[.int .i64 0, .int .i64 0] 88) := bk2
  obtain ⟨r, hr⟩ : ∃ r, l.foldl plusA (0, 0) = r := ⟨_, rfl⟩
  obtain ⟨r1, r2⟩ := r
  have HV : Hid (l.foldl plusA (0, 0) = (r1, r2)) := hr
  rw [hr] at C
  generalize l.length = ln at *
  clear hv hok hr
  go_enter Tryz.func50, Tryz.ntmps50
  go_wp2_with (go_at_call 77; refine C.mono ?_; rintro e w1 ⟨rfl, d⟩; have b0 := HR.out.keep d (by simp); have c0 := b0.cell 0 (u := .int .i64 0) rfl; have c1 := b0.cell 1 (u := .int .i64 0) rfl; have c2 := b0.frozen 0; have c3 := b0.frozen 1; have HR2 : Hid (Bk w1 (w.heap.size + 1) #[.int .i64 0, .int .i64 0] 88) := b0; have HF : Hid (∀ X Y, Below w.heap.size w ((w1.setCell ⟨w.heap.size + 1, 0, none⟩ X).setCell ⟨w.heap.size + 1, 1, none⟩ Y)) := fun X Y => ((HB.out.trans (below_less d (by simp; omega))).setCell (p := ⟨w.heap.size + 1, 0, none⟩) (by simp) X).setCell (p := ⟨w.heap.size + 1, 1, none⟩) (by simp) Y; clear d b0)
  refine bodyPost_ret (results_cell_row Tryz.results50 _ _ (w.heap.size + 1) _ #[.int .i64 r1, .int .i64 r2] _ _ rfl (HR2.out.set2 _ _) Tryz.underlying88 rfl infoAmount) rfl ?_
  exact ⟨by rw [HV.out], HF.out _ _⟩
set_option maxHeartbeats 2000000 in
theorem taken_alt (m a b : Int) (g : Bool) (n : ByteArray) (sv kv : Value) (ao : Option Addr) (cap : Nat) (l : List R) (w : World) (hv : RV w ao l) (hl : l.length ≤ 9223372036854775807) (hok : ∀ x ∈ l, Ok x) :
    Calls Tryz.prog 50 #[.agg #[.int .i64 7, .int .i64 m, .int .i64 a, .int .i64 b, .bool g, .string n, sv, kv], .slice ao l.length cap] w fun e w' => e = .returned (agg2 (l.foldl orA (only l))) ∧ Below w.heap.size w w' := by
  have C := either_any ao cap l ((w.alloc (.cells #[.int .i64 7, .int .i64 m, .int .i64 a, .int .i64 b, .bool g, .string n, sv, kv] 25)).alloc (.cells #[.int .i64 0, .int .i64 0] 88)) (hv.below (below2 _ _ _)) hl hok
  have HB : Hid (Below w.heap.size w ((w.alloc (.cells #[.int .i64 7, .int .i64 m, .int .i64 a, .int .i64 b, .bool g, .string n, sv, kv] 25)).alloc (.cells #[.int .i64 0, .int .i64 0] 88))) := below2 _ _ _
  have HR : Hid (Bk ((w.alloc (.cells #[.int .i64 7, .int .i64 m, .int .i64 a, .int .i64 b, .bool g, .string n, sv, kv] 25)).alloc (.cells #[.int .i64 0, .int .i64 0] 88)) (w.heap.size + 1) #[.int .i64 0, .int .i64 0] 88) := bk2
  obtain ⟨r, hr⟩ : ∃ r, l.foldl orA (only l) = r := ⟨_, rfl⟩
  obtain ⟨r1, r2⟩ := r
  have HV : Hid (l.foldl orA (only l) = (r1, r2)) := hr
  rw [hr] at C
  generalize l.length = ln at *
  clear hv hok hr
  go_enter Tryz.func50, Tryz.ntmps50
  go_wp2_with (go_at_call 78; refine C.mono ?_; rintro e w1 ⟨rfl, d⟩; have b0 := HR.out.keep d (by simp); have c0 := b0.cell 0 (u := .int .i64 0) rfl; have c1 := b0.cell 1 (u := .int .i64 0) rfl; have c2 := b0.frozen 0; have c3 := b0.frozen 1; have HR2 : Hid (Bk w1 (w.heap.size + 1) #[.int .i64 0, .int .i64 0] 88) := b0; have HF : Hid (∀ X Y, Below w.heap.size w ((w1.setCell ⟨w.heap.size + 1, 0, none⟩ X).setCell ⟨w.heap.size + 1, 1, none⟩ Y)) := fun X Y => ((HB.out.trans (below_less d (by simp; omega))).setCell (p := ⟨w.heap.size + 1, 0, none⟩) (by simp) X).setCell (p := ⟨w.heap.size + 1, 1, none⟩) (by simp) Y; clear d b0)
  refine bodyPost_ret (results_cell_row Tryz.results50 _ _ (w.heap.size + 1) _ #[.int .i64 r1, .int .i64 r2] _ _ rfl (HR2.out.set2 _ _) Tryz.underlying88 rfl infoAmount) rfl ?_
  exact ⟨by rw [HV.out], HF.out _ _⟩
set_option maxHeartbeats 2000000 in
theorem taken_group (m a b : Int) (g : Bool) (n : ByteArray) (sv kv : Value) (ao : Option Addr) (cap : Nat) (l : List R) (w : World) (hv : RV w ao l) (hl : l.length ≤ 9223372036854775807) (hok : ∀ x ∈ l, Ok x) :
    Calls Tryz.prog 50 #[.agg #[.int .i64 9, .int .i64 m, .int .i64 a, .int .i64 b, .bool g, .string n, sv, kv], .slice ao l.length cap] w fun e w' => e = .returned (agg2 (only l)) ∧ Below w.heap.size w w' := by
  have C := only_any ao cap l ((w.alloc (.cells #[.int .i64 9, .int .i64 m, .int .i64 a, .int .i64 b, .bool g, .string n, sv, kv] 25)).alloc (.cells #[.int .i64 0, .int .i64 0] 88)) (hv.below (below2 _ _ _)) hl
  have HB : Hid (Below w.heap.size w ((w.alloc (.cells #[.int .i64 9, .int .i64 m, .int .i64 a, .int .i64 b, .bool g, .string n, sv, kv] 25)).alloc (.cells #[.int .i64 0, .int .i64 0] 88))) := below2 _ _ _
  have HR : Hid (Bk ((w.alloc (.cells #[.int .i64 9, .int .i64 m, .int .i64 a, .int .i64 b, .bool g, .string n, sv, kv] 25)).alloc (.cells #[.int .i64 0, .int .i64 0] 88)) (w.heap.size + 1) #[.int .i64 0, .int .i64 0] 88) := bk2
  obtain ⟨r, hr⟩ : ∃ r, only l = r := ⟨_, rfl⟩
  obtain ⟨r1, r2⟩ := r
  have HV : Hid (only l = (r1, r2)) := hr
  rw [hr] at C
  generalize l.length = ln at *
  clear hv hok hr
  go_enter Tryz.func50, Tryz.ntmps50
  go_wp2_with (go_at_call 48; refine C.mono ?_; rintro e w1 ⟨rfl, d⟩; have b0 := HR.out.keep d (by simp); have c0 := b0.cell 0 (u := .int .i64 0) rfl; have c1 := b0.cell 1 (u := .int .i64 0) rfl; have c2 := b0.frozen 0; have c3 := b0.frozen 1; have HR2 : Hid (Bk w1 (w.heap.size + 1) #[.int .i64 0, .int .i64 0] 88) := b0; have HF : Hid (∀ X Y, Below w.heap.size w ((w1.setCell ⟨w.heap.size + 1, 0, none⟩ X).setCell ⟨w.heap.size + 1, 1, none⟩ Y)) := fun X Y => ((HB.out.trans (below_less d (by simp; omega))).setCell (p := ⟨w.heap.size + 1, 0, none⟩) (by simp) X).setCell (p := ⟨w.heap.size + 1, 1, none⟩) (by simp) Y; clear d b0)
  refine bodyPost_ret (results_cell_row Tryz.results50 _ _ (w.heap.size + 1) _ #[.int .i64 r1, .int .i64 r2] _ _ rfl (HR2.out.set2 _ _) Tryz.underlying88 rfl infoAmount) rfl ?_
  exact ⟨by rw [HV.out], HF.out _ _⟩
set_option maxHeartbeats 2000000 in
theorem taken_atomic (m a b : Int) (g : Bool) (n : ByteArray) (sv kv : Value) (ao : Option Addr) (cap : Nat) (l : List R) (w : World) (hv : RV w ao l) (hl : l.length ≤ 9223372036854775807) (hok : ∀ x ∈ l, Ok x) :
    Calls Tryz.prog 50 #[.agg #[.int .i64 11, .int .i64 m, .int .i64 a, .int .i64 b, .bool g, .string n, sv, kv], .slice ao l.length cap] w fun e w' => e = .returned (agg2 (only l)) ∧ Below w.heap.size w w' := by
  have C := only_any ao cap l ((w.alloc (.cells #[.int .i64 11, .int .i64 m, .int .i64 a, .int .i64 b, .bool g, .string n, sv, kv] 25)).alloc (.cells #[.int .i64 0, .int .i64 0] 88)) (hv.below (below2 _ _ _)) hl
  have HB : Hid (Below w.heap.size w ((w.alloc (.cells #[.int .i64 11, .int .i64 m, .int .i64 a, .int .i64 b, .bool g, .string n, sv, kv] 25)).alloc (.cells #[.int .i64 0, .int .i64 0] 88))) := below2 _ _ _
  have HR : Hid (Bk ((w.alloc (.cells #[.int .i64 11, .int .i64 m, .int .i64 a, .int .i64 b, .bool g, .string n, sv, kv] 25)).alloc (.cells #[.int .i64 0, .int .i64 0] 88)) (w.heap.size + 1) #[.int .i64 0, .int .i64 0] 88) := bk2
  obtain ⟨r, hr⟩ : ∃ r, only l = r := ⟨_, rfl⟩
  obtain ⟨r1, r2⟩ := r
  have HV : Hid (only l = (r1, r2)) := hr
  rw [hr] at C
  generalize l.length = ln at *
  clear hv hok hr
  go_enter Tryz.func50, Tryz.ntmps50
  go_wp2_with (go_at_call 48; refine C.mono ?_; rintro e w1 ⟨rfl, d⟩; have b0 := HR.out.keep d (by simp); have c0 := b0.cell 0 (u := .int .i64 0) rfl; have c1 := b0.cell 1 (u := .int .i64 0) rfl; have c2 := b0.frozen 0; have c3 := b0.frozen 1; have HR2 : Hid (Bk w1 (w.heap.size + 1) #[.int .i64 0, .int .i64 0] 88) := b0; have HF : Hid (∀ X Y, Below w.heap.size w ((w1.setCell ⟨w.heap.size + 1, 0, none⟩ X).setCell ⟨w.heap.size + 1, 1, none⟩ Y)) := fun X Y => ((HB.out.trans (below_less d (by simp; omega))).setCell (p := ⟨w.heap.size + 1, 0, none⟩) (by simp) X).setCell (p := ⟨w.heap.size + 1, 1, none⟩) (by simp) Y; clear d b0)
  refine bodyPost_ret (results_cell_row Tryz.results50 _ _ (w.heap.size + 1) _ #[.int .i64 r1, .int .i64 r2] _ _ rfl (HR2.out.set2 _ _) Tryz.underlying88 rfl infoAmount) rfl ?_
  exact ⟨by rw [HV.out], HF.out _ _⟩
set_option maxHeartbeats 2000000 in
theorem taken_repeat (m a b : Int) (g : Bool) (n : ByteArray) (sv kv : Value) (ao : Option Addr) (cap : Nat) (l : List R) (w : World) (hv : RV w ao l) (hl : l.length ≤ 9223372036854775807) (hok : ∀ x ∈ l, Ok x) :
    Calls Tryz.prog 50 #[.agg #[.int .i64 8, .int .i64 m, .int .i64 a, .int .i64 b, .bool g, .string n, sv, kv], .slice ao l.length cap] w fun e w' => e = .returned (agg2 (timesA (only l) a b)) ∧ Below w.heap.size w w' := by
  have C : Hid (∀ W, Below ((w.alloc (.cells #[.int .i64 8, .int .i64 m, .int .i64 a, .int .i64 b, .bool g, .string n, sv, kv] 25)).alloc (.cells #[.int .i64 0, .int .i64 0] 88)).heap.size ((w.alloc (.cells #[.int .i64 8, .int .i64 m, .int .i64 a, .int .i64 b, .bool g, .string n, sv, kv] 25)).alloc (.cells #[.int .i64 0, .int .i64 0] 88)) W → Calls Tryz.prog 48 #[.slice ao l.length cap] W fun e w' => e = .returned (agg2 (only l)) ∧ Below ((w.alloc (.cells #[.int .i64 8, .int .i64 m, .int .i64 a, .int .i64 b, .bool g, .string n, sv, kv] 25)).alloc (.cells #[.int .i64 0, .int .i64 0] 88)).heap.size ((w.alloc (.cells #[.int .i64 8, .int .i64 m, .int .i64 a, .int .i64 b, .bool g, .string n, sv, kv] 25)).alloc (.cells #[.int .i64 0, .int .i64 0] 88)) w') := fun W hW =>
    (only_any ao cap l W ((hv.below (below2 _ _ _)).below hW) hl).mono (by rintro e w' ⟨rfl, d⟩; exact ⟨rfl, hW.trans (below_less d hW.size)⟩)
  obtain ⟨y, hy⟩ : ∃ y, only l = y := ⟨_, rfl⟩
  have T : Hid (∀ W, Below ((w.alloc (.cells #[.int .i64 8, .int .i64 m, .int .i64 a, .int .i64 b, .bool g, .string n, sv, kv] 25)).alloc (.cells #[.int .i64 0, .int .i64 0] 88)).heap.size ((w.alloc (.cells #[.int .i64 8, .int .i64 m, .int .i64 a, .int .i64 b, .bool g, .string n, sv, kv] 25)).alloc (.cells #[.int .i64 0, .int .i64 0] 88)) W → Calls Tryz.prog 79 #[agg2 y, .int .i64 a, .int .i64 b] W fun e w' => e = .returned (agg2 (timesA y a b)) ∧ Below ((w.alloc (.cells #[.int .i64 8, .int .i64 m, .int .i64 a, .int .i64 b, .bool g, .string n, sv, kv] 25)).alloc (.cells #[.int .i64 0, .int .i64 0] 88)).heap.size ((w.alloc (.cells #[.int .i64 8, .int .i64 m, .int .i64 a, .int .i64 b, .bool g, .string n, sv, kv] 25)).alloc (.cells #[.int .i64 0, .int .i64 0] 88)) w') := fun W hW =>
    (times_any y a b W (hy ▸ only_ok hok)).mono (by rintro e w' ⟨rfl, d⟩; exact ⟨rfl, hW.trans (below_less d hW.size)⟩)
  have HB : Hid (Below w.heap.size w ((w.alloc (.cells #[.int .i64 8, .int .i64 m, .int .i64 a, .int .i64 b, .bool g, .string n, sv, kv] 25)).alloc (.cells #[.int .i64 0, .int .i64 0] 88))) := below2 _ _ _
  have HR : Hid (Bk ((w.alloc (.cells #[.int .i64 8, .int .i64 m, .int .i64 a, .int .i64 b, .bool g, .string n, sv, kv] 25)).alloc (.cells #[.int .i64 0, .int .i64 0] 88)) (w.heap.size + 1) #[.int .i64 0, .int .i64 0] 88) := bk2
  have HX : Hid (Bk ((w.alloc (.cells #[.int .i64 8, .int .i64 m, .int .i64 a, .int .i64 b, .bool g, .string n, sv, kv] 25)).alloc (.cells #[.int .i64 0, .int .i64 0] 88)) w.heap.size #[.int .i64 8, .int .i64 m, .int .i64 a, .int .i64 b, .bool g, .string n, sv, kv] 25) := (Bk.new w _ _).past _
  obtain ⟨r, hr⟩ : ∃ r, timesA y a b = r := ⟨_, rfl⟩
  rw [hr] at T
  rw [hy] at C
  obtain ⟨r1, r2⟩ := r
  obtain ⟨y1, y2⟩ := y
  have HV : Hid (timesA (only l) a b = (r1, r2)) := by unfold Hid; rw [hy, hr]
  have hz : ((w.alloc (.cells #[.int .i64 8, .int .i64 m, .int .i64 a, .int .i64 b, .bool g, .string n, sv, kv] 25)).alloc (.cells #[.int .i64 0, .int .i64 0] 88)).heap.size = w.heap.size + 2 := by simp
  have HZ : Hid (((w.alloc (.cells #[.int .i64 8, .int .i64 m, .int .i64 a, .int .i64 b, .bool g, .string n, sv, kv] 25)).alloc (.cells #[.int .i64 0, .int .i64 0] 88)).heap.size = w.heap.size + 2) := hz
  generalize l.length = ln at *
  clear hv hok hr hz hy
  go_enter Tryz.func50, Tryz.ntmps50
  go_wp2
  go_region_with (first
    | (go_at_call 79; refine (T.out _ ?_).mono ?_; exact D.out; rintro e w2 ⟨rfl, d⟩; have b0 := HR.out.keep d (by rw [HZ.out]; omega); have c0 := b0.cell 0 (u := .int .i64 0) rfl; have c1 := b0.cell 1 (u := .int .i64 0) rfl; have c2 := b0.frozen 0; have c3 := b0.frozen 1; have HR2 : Hid (Bk w2 (w.heap.size + 1) #[.int .i64 0, .int .i64 0] 88) := b0; have HF : Hid (∀ X Y, Below w.heap.size w ((w2.setCell ⟨w.heap.size + 1, 0, none⟩ X).setCell ⟨w.heap.size + 1, 1, none⟩ Y)) := fun X Y => ((HB.out.trans (below_less d (by rw [HZ.out]; omega))).setCell (p := ⟨w.heap.size + 1, 0, none⟩) (by simp) X).setCell (p := ⟨w.heap.size + 1, 1, none⟩) (by simp) Y; clear d b0)
    | (go_at_call 48; refine (C.out _ ?_).mono ?_; exact ⟨rfl, rfl, rfl, Nat.le_refl _, fun _ _ => rfl⟩; rintro e w1 ⟨rfl, d⟩; have D : Hid (Below ((w.alloc (.cells #[.int .i64 8, .int .i64 m, .int .i64 a, .int .i64 b, .bool g, .string n, sv, kv] 25)).alloc (.cells #[.int .i64 0, .int .i64 0] 88)).heap.size ((w.alloc (.cells #[.int .i64 8, .int .i64 m, .int .i64 a, .int .i64 b, .bool g, .string n, sv, kv] 25)).alloc (.cells #[.int .i64 0, .int .i64 0] 88)) w1) := d; have x0 := HX.out.keep d (by rw [HZ.out]; omega); have x2 := x0.cell 2 (u := .int .i64 a) rfl; have x3 := x0.cell 3 (u := .int .i64 b) rfl; clear d x0))
  all_goals go_wp2
  all_goals refine bodyPost_ret (results_cell_row Tryz.results50 _ _ (w.heap.size + 1) _ #[.int .i64 r1, .int .i64 r2] _ _ rfl (HR2.out.set2 _ _) Tryz.underlying88 rfl infoAmount) rfl ?_
  all_goals exact ⟨by rw [HV.out], HF.out _ _⟩
theorem taken_any (k m a b : Int) (g : Bool) (n : ByteArray) (sv kv : Value) (ao : Option Addr) (cap : Nat) (l : List R) (w : World) (hv : RV w ao l) (hl : l.length ≤ 9223372036854775807) (hok : ∀ x ∈ l, Ok x) :
    Calls Tryz.prog 50 #[.agg #[.int .i64 k, .int .i64 m, .int .i64 a, .int .i64 b, .bool g, .string n, sv, kv], .slice ao l.length cap] w fun e w' => e = .returned (agg2 (takenA k a b l)) ∧ Below w.heap.size w w' := by
  by_cases c15 : k = 15
  · subst c15; rw [takenA, if_pos rfl]; exact taken_set m a b g n sv kv ao cap l w hv hl hok
  by_cases c6 : k = 6
  · subst c6; rw [takenA, if_neg (by decide), if_pos rfl]; exact taken_seq m a b g n sv kv ao cap l w hv hl hok
  by_cases c7 : k = 7
  · subst c7; rw [takenA, if_neg (by decide), if_neg (by decide), if_pos rfl]; exact taken_alt m a b g n sv kv ao cap l w hv hl hok
  by_cases c8 : k = 8
  · subst c8; rw [takenA, if_neg (by decide), if_neg (by decide), if_neg (by decide), if_pos rfl]; exact taken_repeat m a b g n sv kv ao cap l w hv hl hok
  by_cases c9 : k = 9
  · subst c9; rw [takenA, if_neg (by decide), if_neg (by decide), if_neg (by decide), if_neg (by decide), if_pos (by decide)]; exact taken_group m a b g n sv kv ao cap l w hv hl hok
  by_cases c11 : k = 11
  · subst c11; rw [takenA, if_neg (by decide), if_neg (by decide), if_neg (by decide), if_neg (by decide), if_pos (by decide)]; exact taken_atomic m a b g n sv kv ao cap l w hv hl hok
  by_cases c13 : k = 13
  · subst c13; rw [takenA, if_neg (by decide), if_neg (by decide), if_neg (by decide), if_neg (by decide), if_neg (by decide), if_pos rfl]; exact taken_back m a b g n sv kv ao cap l w hv hl hok
  by_cases c14 : k = 14
  · subst c14; rw [takenA, if_neg (by decide), if_neg (by decide), if_neg (by decide), if_neg (by decide), if_neg (by decide), if_neg (by decide), if_pos rfl]; exact taken_cluster m a b g n sv kv ao cap l w hv hl hok
  rw [takenA, if_neg c15, if_neg c6, if_neg c7, if_neg c8, if_neg (by omega), if_neg c13, if_neg c14]
  exact taken_none k m a b g n sv kv ao cap l w hv hl hok (by simpa using c15) (by simpa using c6) (by simpa using c7) (by simpa using c8) (by simpa using c9) (by simpa using c11) (by simpa using c13) (by simpa using c14)
end Go.Proofs.YtjbcapnpknbbaaaGreat.wid
end
