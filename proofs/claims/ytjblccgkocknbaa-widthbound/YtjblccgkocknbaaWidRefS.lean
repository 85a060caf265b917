/- The document's plus, times, greater. -/
import Derived.Test.YtjblccgkocknbaaWidMeth
set_option linter.unusedVariables false
set_option linter.unusedSimpArgs false
namespace Go.Proofs.Ytjblccgkocknbaa.wid
open Go.RowKit
open Go.Proofs.Ytjblccgkocknbaa.nod
open Go.Proofs.Ytjblccgkocknbaa.rng (R RV ret_int ret_bool below_drewN info_parts own_below')

theorem rplus_any (a b : Int) (w : World) (h1 : -1 ≤ a) (h2 : a ≤ 1073741824) (h3 : -1 ≤ b) (h4 : b ≤ 1073741824) :
    Calls Try.prog 21 #[.int .i64 a, .int .i64 b] w fun e w' => e = .returned (.int .i64 (plusR a b)) ∧ w' = w := by
  by_cases c1 : a < 0
  · have HE : Hid (plusR a b = -1) := by unfold Hid plusR; rw [if_pos (.inl c1)]
    have f1 : decide (a < 0) = true := decide_eq_true c1
    go_enter Try.func21, Try.ntmps21
    go_wp2
    go_ret
    exact ⟨by rw [HE.out]; rfl, rfl⟩
  have f1 : decide (a < 0) = false := decide_eq_false c1
  by_cases c2 : b < 0
  · have HE : Hid (plusR a b = -1) := by unfold Hid plusR; rw [if_pos (.inr c2)]
    have f2 : decide (b < 0) = true := decide_eq_true c2
    go_enter Try.func21, Try.ntmps21
    go_wp2
    go_ret
    exact ⟨by rw [HE.out]; rfl, rfl⟩
  · have f2 : decide (b < 0) = false := decide_eq_false c2
    have HE : Hid (plusR a b = min (a + b) 1073741824) := by unfold Hid plusR; rw [if_neg (by omega)]
    obtain ⟨X, hX⟩ : ∃ X, min (a + b) 1073741824 = X := ⟨_, rfl⟩
    have hX' : (if 1073741824 < a + b then 1073741824 else a + b) = X := by rw [← hX]; split <;> omega
    rw [hX] at HE
    clear hX
    go_enter Try.func21, Try.ntmps21
    go_wp2
    go_ret
    exact ⟨by rw [HE.out]; rfl, rfl⟩
theorem rgreater_any (a b : Int) (w : World) (h1 : -1 ≤ a) (h2 : a ≤ 1073741824) (h3 : -1 ≤ b) (h4 : b ≤ 1073741824) :
    Calls Try.prog 22 #[.int .i64 a, .int .i64 b] w fun e w' => e = .returned (.int .i64 (greaterR a b)) ∧ w' = w := by
  by_cases c1 : a < 0
  · have HE : Hid (greaterR a b = -1) := by unfold Hid greaterR; rw [if_pos (.inl c1)]
    have f1 : decide (a < 0) = true := decide_eq_true c1
    go_enter Try.func22, Try.ntmps22
    go_wp2
    go_ret
    exact ⟨by rw [HE.out]; rfl, rfl⟩
  have f1 : decide (a < 0) = false := decide_eq_false c1
  by_cases c2 : b < 0
  · have HE : Hid (greaterR a b = -1) := by unfold Hid greaterR; rw [if_pos (.inr c2)]
    have f2 : decide (b < 0) = true := decide_eq_true c2
    go_enter Try.func22, Try.ntmps22
    go_wp2
    go_ret
    exact ⟨by rw [HE.out]; rfl, rfl⟩
  · have f2 : decide (b < 0) = false := decide_eq_false c2
    have HE : Hid (greaterR a b = max a b) := by unfold Hid greaterR; rw [if_neg (by omega)]
    obtain ⟨X, hX⟩ : ∃ X, max a b = X := ⟨_, rfl⟩
    have hX' : (if a < b then b else a) = X := by rw [← hX]; split <;> omega
    rw [hX] at HE
    clear hX
    go_enter Try.func22, Try.ntmps22
    go_wp2
    go_ret
    exact ⟨by rw [HE.out]; rfl, rfl⟩
theorem rtimes_any (a n : Int) (w : World) (h1 : -1 ≤ a) (h2 : a ≤ 1073741824) (h3 : I64 n) :
    Calls Try.prog 20 #[.int .i64 a, .int .i64 n] w fun e w' => e = .returned (.int .i64 (timesR a n)) ∧ w' = w := by
  obtain ⟨h3, h4⟩ := h3
  by_cases c1 : a = 0
  · subst c1
    have HE : Hid (timesR 0 n = 0) := by unfold Hid timesR; rw [if_pos (.inl rfl)]
    go_enter Try.func20, Try.ntmps20
    go_wp2
    go_ret
    exact ⟨by rw [HE.out]; rfl, rfl⟩
  have f1 : (a == 0) = false := by simpa using c1
  by_cases c2 : n = 0
  · subst c2
    have HE : Hid (timesR a 0 = 0) := by unfold Hid timesR; rw [if_pos (.inr rfl)]
    go_enter Try.func20, Try.ntmps20
    go_wp2
    go_ret
    exact ⟨by rw [HE.out]; rfl, rfl⟩
  have f2 : (n == 0) = false := by simpa using c2
  by_cases c3 : a < 0
  · have HE : Hid (timesR a n = -1) := by unfold Hid timesR; rw [if_neg (by omega), if_pos (.inl c3)]
    have f3 : decide (a < 0) = true := decide_eq_true c3
    go_enter Try.func20, Try.ntmps20
    go_wp2
    go_ret
    exact ⟨by rw [HE.out]; rfl, rfl⟩
  have f3 : decide (a < 0) = false := decide_eq_false c3
  by_cases c4 : n < 0
  · have HE : Hid (timesR a n = -1) := by unfold Hid timesR; rw [if_neg (by omega), if_pos (.inr c4)]
    have f4 : decide (n < 0) = true := decide_eq_true c4
    go_enter Try.func20, Try.ntmps20
    go_wp2
    go_ret
    exact ⟨by rw [HE.out]; rfl, rfl⟩
  have f4 : decide (n < 0) = false := decide_eq_false c4
  obtain ⟨Q, hQ⟩ : ∃ Q, Int.tdiv 1073741824 n = Q := ⟨_, rfl⟩
  have q1 : 0 ≤ Q ∧ Q ≤ 1073741824 := by
    rw [← hQ, Int.tdiv_eq_ediv_of_nonneg (by omega)]
    exact ⟨Int.ediv_nonneg (by omega) (by omega), Int.ediv_le_self _ (by omega)⟩
  obtain ⟨q1, q2⟩ := q1
  by_cases c5 : a > Q
  · have HE : Hid (timesR a n = 1073741824) := by unfold Hid timesR; rw [if_neg (by omega), if_neg (by omega), hQ, if_pos c5]
    have f5 : decide (a > Q) = true := decide_eq_true c5
    go_enter Try.func20, Try.ntmps20
    go_wp2
    go_ret
    exact ⟨by rw [HE.out]; rfl, rfl⟩
  · have HE : Hid (timesR a n = a * n) := by unfold Hid timesR; rw [if_neg (by omega), if_neg (by omega), hQ, if_neg c5]
    have hf := timesR_fits (a := a) (n := n) (by omega) (by omega) (by rw [hQ]; exact c5)
    have f5 : decide (a > Q) = false := decide_eq_false c5
    obtain ⟨X, hX⟩ : ∃ X, a * n = X := ⟨_, rfl⟩
    rw [hX] at hf HE
    obtain ⟨hf1, hf2⟩ := hf
    go_enter Try.func20, Try.ntmps20
    go_wp2
    go_ret
    exact ⟨by rw [HE.out]; rfl, rfl⟩
end Go.Proofs.Ytjblccgkocknbaa.wid
