/- times, taken and what else walk.Up is handed by package width. -/
import Derived.Test.YtjblccgkocknbaaWidFold
import Derived.Deep.RegionHeld3
import Derived.Deep.RegionWith
set_option linter.unusedVariables false
set_option linter.unusedSimpArgs false
namespace Go.Proofs.Ytjblccgkocknbaa.wid
open Go.RowKit
open Go.Proofs.Ytjblccgkocknbaa.nod
open Go.Proofs.Ytjblccgkocknbaa.rng (R RV ret_int ret_bool below_drewN info_parts own_below')

theorem bk3 {w : World} {t2 : TypeId} {x y : Value} {o1 o3 : Obj} : Bk (((w.alloc o1).alloc (.cells #[x, y] t2)).alloc o3) (w.heap.size + 1) #[x, y] t2 := by
  have := (Bk.new (w.alloc o1) #[x, y] t2).past o3
  simpa using this
theorem below3 (w : World) (o1 o2 o3 : Obj) : Below w.heap.size w (((w.alloc o1).alloc o2).alloc o3) := (((Below.refl _ w).alloc (Nat.le_refl _) _).alloc (by simp) _).alloc (by simp; omega) _
set_option maxHeartbeats 2000000 in
theorem times_a (x1 l : Int) (m : Int) (w : World) (h1 : 0 ≤ x1) (h2 : x1 ≤ 1073741824) :
    Calls Try.prog 30 #[.agg #[.int .i64 x1, .int .i64 (0)], .int .i64 l, .int .i64 (m)] w fun e w' => e = .returned (agg2 (timesA (x1, 0) l (m))) ∧ Below w.heap.size w w' := by
  have C1 : Hid (∀ W, Calls Try.prog 31 #[.int .i64 x1, .int .i64 l] W fun e w' => e = .returned (.int .i64 (prod x1 l)) ∧ W = w') := fun W => (product_any x1 l W h1 h2).mono (by rintro e w' ⟨rfl, rfl⟩; exact ⟨rfl, rfl⟩)
  obtain ⟨P, hP⟩ : ∃ P, prod x1 l = P := ⟨_, rfl⟩
  rw [hP] at C1
  have HT : Hid (timesA (x1, 0) l (m) = (P, 0)) := by unfold Hid timesA; rw [← hP]; simp
  clear hP
  go_enter Try.func30, Try.ntmps30
  go_wp2_with ((go_at_call 31; refine (C1.out _).mono ?_; rintro e w1 ⟨rfl, rfl⟩))
  refine bodyPost_ret (results_cell_row Try.results30 _ _ (w.heap.size + 1) _ #[.int .i64 P, .int .i64 (0)] _ _ rfl bk3 Try.underlying39 rfl infoAmount) rfl ?_
  exact ⟨by rw [HT.out], below3 _ _ _ _⟩
set_option maxHeartbeats 2000000 in
theorem times_b (x1 l : Int) (x2 : Int) (w : World) (h1 : 0 ≤ x1) (h2 : x1 ≤ 1073741824) (f1 : (x2 == 0) = false) :
    Calls Try.prog 30 #[.agg #[.int .i64 x1, .int .i64 (x2)], .int .i64 l, .int .i64 (0)] w fun e w' => e = .returned (agg2 (timesA (x1, x2) l (0))) ∧ Below w.heap.size w w' := by
  have C1 : Hid (∀ W, Calls Try.prog 31 #[.int .i64 x1, .int .i64 l] W fun e w' => e = .returned (.int .i64 (prod x1 l)) ∧ W = w') := fun W => (product_any x1 l W h1 h2).mono (by rintro e w' ⟨rfl, rfl⟩; exact ⟨rfl, rfl⟩)
  obtain ⟨P, hP⟩ : ∃ P, prod x1 l = P := ⟨_, rfl⟩
  rw [hP] at C1
  have HT : Hid (timesA (x1, x2) l (0) = (P, 0)) := by unfold Hid timesA; rw [← hP]; simp
  clear hP
  go_enter Try.func30, Try.ntmps30
  go_wp2_with ((go_at_call 31; refine (C1.out _).mono ?_; rintro e w1 ⟨rfl, rfl⟩))
  refine bodyPost_ret (results_cell_row Try.results30 _ _ (w.heap.size + 1) _ #[.int .i64 P, .int .i64 (0)] _ _ rfl bk3 Try.underlying39 rfl infoAmount) rfl ?_
  exact ⟨by rw [HT.out], below3 _ _ _ _⟩
set_option maxHeartbeats 2000000 in
theorem times_c (x1 l : Int) (x2 : Int) (m : Int) (w : World) (h1 : 0 ≤ x1) (h2 : x1 ≤ 1073741824) (f1 : (x2 == 0) = false) (f2 : (m == 0) = false) (f3 : decide (m < -1) = true) :
    Calls Try.prog 30 #[.agg #[.int .i64 x1, .int .i64 (x2)], .int .i64 l, .int .i64 (m)] w fun e w' => e = .returned (agg2 (timesA (x1, x2) l (m))) ∧ Below w.heap.size w w' := by
  have C1 : Hid (∀ W, Calls Try.prog 31 #[.int .i64 x1, .int .i64 l] W fun e w' => e = .returned (.int .i64 (prod x1 l)) ∧ W = w') := fun W => (product_any x1 l W h1 h2).mono (by rintro e w' ⟨rfl, rfl⟩; exact ⟨rfl, rfl⟩)
  obtain ⟨P, hP⟩ : ∃ P, prod x1 l = P := ⟨_, rfl⟩
  rw [hP] at C1
  have HT : Hid (timesA (x1, x2) l (m) = (P, 0)) := by unfold Hid timesA; rw [← hP]; rw [if_pos (by simp at f3; omega)]
  clear hP
  go_enter Try.func30, Try.ntmps30
  go_wp2_with ((go_at_call 31; refine (C1.out _).mono ?_; rintro e w1 ⟨rfl, rfl⟩))
  refine bodyPost_ret (results_cell_row Try.results30 _ _ (w.heap.size + 1) _ #[.int .i64 P, .int .i64 (0)] _ _ rfl bk3 Try.underlying39 rfl infoAmount) rfl ?_
  exact ⟨by rw [HT.out], below3 _ _ _ _⟩
set_option maxHeartbeats 2000000 in
theorem times_d (x1 l : Int) (m : Int) (w : World) (h1 : 0 ≤ x1) (h2 : x1 ≤ 1073741824) (f2 : (m == 0) = false) (f3 : decide (m < -1) = false) :
    Calls Try.prog 30 #[.agg #[.int .i64 x1, .int .i64 (-1)], .int .i64 l, .int .i64 (m)] w fun e w' => e = .returned (agg2 (timesA (x1, -1) l (m))) ∧ Below w.heap.size w w' := by
  have C1 : Hid (∀ W, Calls Try.prog 31 #[.int .i64 x1, .int .i64 l] W fun e w' => e = .returned (.int .i64 (prod x1 l)) ∧ W = w') := fun W => (product_any x1 l W h1 h2).mono (by rintro e w' ⟨rfl, rfl⟩; exact ⟨rfl, rfl⟩)
  obtain ⟨P, hP⟩ : ∃ P, prod x1 l = P := ⟨_, rfl⟩
  rw [hP] at C1
  have HT : Hid (timesA (x1, -1) l (m) = (P, -1)) := by unfold Hid timesA; rw [← hP]; simp at f2 f3; rw [if_neg (by omega), if_pos (by simp)]
  clear hP
  go_enter Try.func30, Try.ntmps30
  go_wp2_with ((go_at_call 31; refine (C1.out _).mono ?_; rintro e w1 ⟨rfl, rfl⟩))
  refine bodyPost_ret (results_cell_row Try.results30 _ _ (w.heap.size + 1) _ #[.int .i64 P, .int .i64 (-1)] _ _ rfl bk3 Try.underlying39 rfl infoAmount) rfl ?_
  exact ⟨by rw [HT.out], below3 _ _ _ _⟩
set_option maxHeartbeats 2000000 in
theorem times_e (x1 l : Int) (x2 : Int) (w : World) (h1 : 0 ≤ x1) (h2 : x1 ≤ 1073741824) (f1 : (x2 == 0) = false) (f4 : (x2 == -1) = false) :
    Calls Try.prog 30 #[.agg #[.int .i64 x1, .int .i64 (x2)], .int .i64 l, .int .i64 (-1)] w fun e w' => e = .returned (agg2 (timesA (x1, x2) l (-1))) ∧ Below w.heap.size w w' := by
  have C1 : Hid (∀ W, Calls Try.prog 31 #[.int .i64 x1, .int .i64 l] W fun e w' => e = .returned (.int .i64 (prod x1 l)) ∧ W = w') := fun W => (product_any x1 l W h1 h2).mono (by rintro e w' ⟨rfl, rfl⟩; exact ⟨rfl, rfl⟩)
  obtain ⟨P, hP⟩ : ∃ P, prod x1 l = P := ⟨_, rfl⟩
  rw [hP] at C1
  have HT : Hid (timesA (x1, x2) l (-1) = (P, -1)) := by unfold Hid timesA; rw [← hP]; simp at f1; rw [if_neg (by omega), if_pos (by simp)]
  clear hP
  go_enter Try.func30, Try.ntmps30
  go_wp2_with ((go_at_call 31; refine (C1.out _).mono ?_; rintro e w1 ⟨rfl, rfl⟩))
  refine bodyPost_ret (results_cell_row Try.results30 _ _ (w.heap.size + 1) _ #[.int .i64 P, .int .i64 (-1)] _ _ rfl bk3 Try.underlying39 rfl infoAmount) rfl ?_
  exact ⟨by rw [HT.out], below3 _ _ _ _⟩
set_option maxHeartbeats 2000000 in
theorem times_f (x1 l : Int) (x2 : Int) (m : Int) (w : World) (h1 : 0 ≤ x1) (h2 : x1 ≤ 1073741824) (f1 : (x2 == 0) = false) (f2 : (m == 0) = false) (f3 : decide (m < -1) = false) (f4 : (x2 == -1) = false) (f5 : (m == -1) = false) (h3 : 0 ≤ x2) (h4 : x2 ≤ 1073741824) :
    Calls Try.prog 30 #[.agg #[.int .i64 x1, .int .i64 (x2)], .int .i64 l, .int .i64 (m)] w fun e w' => e = .returned (agg2 (timesA (x1, x2) l (m))) ∧ Below w.heap.size w w' := by
  have C1 : Hid (∀ W, Calls Try.prog 31 #[.int .i64 x1, .int .i64 l] W fun e w' => e = .returned (.int .i64 (prod x1 l)) ∧ W = w') := fun W => (product_any x1 l W h1 h2).mono (by rintro e w' ⟨rfl, rfl⟩; exact ⟨rfl, rfl⟩)
  obtain ⟨P, hP⟩ : ∃ P, prod x1 l = P := ⟨_, rfl⟩
  rw [hP] at C1
  have HT : Hid (timesA (x1, x2) l (m) = (P, prod x2 m)) := by unfold Hid timesA; rw [← hP]; simp at f1 f2 f3 f4 f5; rw [if_neg (by omega), if_neg (by omega)]
  clear hP
  have C2 : Hid (∀ W, Calls Try.prog 31 #[.int .i64 x2, .int .i64 m] W fun e w' => e = .returned (.int .i64 (prod x2 m)) ∧ W = w') := fun W => (product_any x2 m W (by omega) h4).mono (by rintro e w' ⟨rfl, rfl⟩; exact ⟨rfl, rfl⟩)
  obtain ⟨Q, hQ⟩ : ∃ Q, prod x2 m = Q := ⟨_, rfl⟩
  rw [hQ] at C2 HT
  go_enter Try.func30, Try.ntmps30
  go_wp2_with (first | (go_at_call_of 31 (Value.int IntKind.i64 x2); refine (C2.out _).mono ?_; rintro e w1 ⟨rfl, rfl⟩) | (go_at_call 31; refine (C1.out _).mono ?_; rintro e w1 ⟨rfl, rfl⟩))
  refine bodyPost_ret (results_cell_row Try.results30 _ _ (w.heap.size + 1) _ #[.int .i64 P, .int .i64 (Q)] _ _ rfl bk3 Try.underlying39 rfl infoAmount) rfl ?_
  exact ⟨by rw [HT.out], below3 _ _ _ _⟩
theorem times_any (x : R) (l m : Int) (w : World) (hx : Ok x) :
    Calls Try.prog 30 #[agg2 x, .int .i64 l, .int .i64 m] w fun e w' => e = .returned (agg2 (timesA x l m)) ∧ Below w.heap.size w w' := by
  obtain ⟨x1, x2⟩ := x
  obtain ⟨h1, h2, h3, h4⟩ := hx
  simp only at h1 h2 h3 h4
  by_cases a1 : x2 = 0
  · subst a1; exact times_a x1 l m w h1 h2
  have f1 : (x2 == 0) = false := by simpa using a1
  by_cases a2 : m = 0
  · subst a2; exact times_b x1 l x2 w h1 h2 f1
  have f2 : (m == 0) = false := by simpa using a2
  by_cases a3 : m < -1
  · exact times_c x1 l x2 m w h1 h2 f1 f2 (decide_eq_true a3)
  have f3 : decide (m < -1) = false := decide_eq_false a3
  by_cases a4 : x2 = -1
  · subst a4; exact times_d x1 l m w h1 h2 f2 f3
  have f4 : (x2 == -1) = false := by simpa using a4
  by_cases a5 : m = -1
  · subst a5; exact times_e x1 l x2 w h1 h2 f1 f4
  have f5 : (m == -1) = false := by simpa using a5
  exact times_f x1 l x2 m w h1 h2 f1 f2 f3 f4 f5 (by omega) h4


theorem everywhere_any (k m a b : Int) (g : Bool) (n : ByteArray) (sv kv : Value) (above : Int) (w : World) :
    Calls Try.prog 17 #[.agg #[.int .i64 k, .int .i64 m, .int .i64 a, .int .i64 b, .bool g, .string n, sv, kv], .int .i64 above] w fun e w' => e = .returned (.bool true) ∧ Below w.heap.size w w' := by
  have HB : Hid (Below w.heap.size w (w.alloc (.cells #[.int .i64 k, .int .i64 m, .int .i64 a, .int .i64 b, .bool g, .string n, sv, kv] 25))) := (Below.refl _ w).alloc (Nat.le_refl _) _
  go_enter Try.func17, Try.ntmps17
  go_wp2
  go_ret
  exact ⟨rfl, HB.out⟩
theorem looks_any (k m a b : Int) (g : Bool) (n : ByteArray) (sv kv : Value) (w : World) :
    Calls Try.prog 24 #[.agg #[.int .i64 k, .int .i64 m, .int .i64 a, .int .i64 b, .bool g, .string n, sv, kv]] w fun e w' => e = .returned (.bool (behind k m)) ∧ Below w.heap.size w w' := by
  have HB : Hid (Below w.heap.size w (w.alloc (.cells #[.int .i64 k, .int .i64 m, .int .i64 a, .int .i64 b, .bool g, .string n, sv, kv] 25))) := (Below.refl _ w).alloc (Nat.le_refl _) _
  by_cases c1 : k = 10
  · subst c1
    by_cases c2 : m = 2
    · subst c2
      go_enter Try.func24, Try.ntmps24
      go_wp2
      go_ret
      exact ⟨rfl, HB.out⟩
    · have c2' : (m == 2) = false := by simpa using c2
      have HE : Hid (behind 10 m = (m == 3)) := by unfold Hid behind; rw [c2']; rfl
      clear c2
      go_enter Try.func24, Try.ntmps24
      go_wp2
      go_ret
      exact ⟨by rw [HE.out]; rfl, HB.out⟩
  · have c1' : (k == 10) = false := by simpa using c1
    have HE : Hid (behind k m = false) := by unfold Hid behind; rw [c1']; rfl
    clear c1
    go_enter Try.func24, Try.ntmps24
    go_wp2
    go_ret
    exact ⟨by rw [HE.out]; rfl, HB.out⟩
end Go.Proofs.Ytjblccgkocknbaa.wid
