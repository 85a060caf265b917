/- The small functions of package width. -/
import Derived.Test.YtjblccgkocknbaaWidPure
import Derived.Test.YtjblccgkocknbaaNodKp
import Derived.Laws.Rows
set_option linter.unusedVariables false
set_option linter.unusedSimpArgs false
namespace Go.Proofs.Ytjblccgkocknbaa.wid
open Go.RowKit
open Go.Proofs.Ytjblccgkocknbaa.nod
open Go.Proofs.Ytjblccgkocknbaa.rng (R RV ret_int ret_bool below_drewN info_parts own_below')

theorem infoAmount : (Try.prog.info? 39).map (·.size) = some 2 := by kernel_rfl
abbrev agg2 (x : R) : Value := .agg #[.int .i64 x.1, .int .i64 x.2]

theorem only_any (ao : Option Addr) (cap : Nat) (l : List R) (w : World) (hv : RV w ao l) (hl : l.length ≤ 9223372036854775807) :
    Calls Try.prog 25 #[.slice ao l.length cap] w fun e w' => e = .returned (agg2 (only l)) ∧ Below w.heap.size w w' := by
  cases l with
  | nil =>
    clear hv
    have HB : Hid (Below w.heap.size w (w.alloc (.cells #[.int .i64 0, .int .i64 0] 39))) := (Below.refl _ w).alloc (Nat.le_refl _) _
    go_enter Try.func25, Try.ntmps25
    go_wp2
    refine bodyPost_ret (results_cell_row Try.results25 _ _ w.heap.size _ _ _ _ rfl (Bk.new w _ _) Try.underlying39 rfl infoAmount) rfl ?_
    exact ⟨rfl, HB.out⟩
  | cons x l =>
    obtain ⟨bb, off, rfl, hx⟩ := hv.some (by simp)
    obtain ⟨c0, c1⟩ := hx 0 x rfl
    obtain ⟨x1, x2⟩ := x
    simp only [Nat.zero_mul, Nat.add_zero] at c0 c1
    generalize hn : (((x1, x2) : R) :: l).length = n at *
    have hn0 : ((n : Int) == 0) = false := by rw [← hn]; simp; omega
    have hn1 : 0 < n := by rw [← hn]; simp
    have HB : Hid (Below w.heap.size w (w.alloc (.cells #[.int .i64 x1, .int .i64 x2] 39))) := (Below.refl _ w).alloc (Nat.le_refl _) _
    have c0 := cell_past (.cells #[.int .i64 0, .int .i64 0] 39) c0
    have c1 := cell_past (.cells #[.int .i64 0, .int .i64 0] 39) c1
    clear hv hx hn
    go_enter Try.func25, Try.ntmps25
    go_wp2
    refine bodyPost_ret (results_cell_row Try.results25 _ _ w.heap.size _ _ _ _ rfl (Bk.new w #[.int .i64 x1, .int .i64 x2] _) Try.underlying39 rfl infoAmount) rfl ?_
    exact ⟨rfl, HB.out⟩

theorem fits_any (x : R) (w : World) :
    Calls Try.prog 26 #[agg2 x] w fun e w' => e = .returned (.bool (fits x)) ∧ Below w.heap.size w w' := by
  obtain ⟨x1, x2⟩ := x
  have HB : Hid (Below w.heap.size w (w.alloc (.cells #[.int .i64 x1, .int .i64 x2] 39))) := (Below.refl _ w).alloc (Nat.le_refl _) _
  by_cases c : x2 = -1
  · subst c
    go_enter Try.func26, Try.ntmps26
    go_wp2
    go_ret
    exact ⟨rfl, HB.out⟩
  · have c' : (x2 == -1) = false := by simpa using c
    have E : Hid (fits (x1, x2) = decide (x2 ≤ 50)) := by unfold Hid fits; simp [c]
    clear c'
    go_enter Try.func26, Try.ntmps26
    go_wp2
    go_ret
    exact ⟨by rw [E.out]; exact ret_bool (by simp [c]), HB.out⟩

theorem product_any (i t : Int) (w : World) (h1 : 0 ≤ i) (h2 : i ≤ 1073741824) :
    Calls Try.prog 31 #[.int .i64 i, .int .i64 t] w fun e w' => e = .returned (.int .i64 (prod i t)) ∧ w' = w := by
  obtain ⟨M, hM⟩ : ∃ M, max t 0 = M := ⟨_, rfl⟩
  obtain ⟨T, hT⟩ : ∃ T, min M 1073741824 = T := ⟨_, rfl⟩
  have hb := mul_bounds h1 h2 (show 0 ≤ T by omega) (by omega)
  obtain ⟨P, hP⟩ : ∃ P, i * T = P := ⟨_, rfl⟩
  have HE : Hid (prod i t = min P 1073741824) := by unfold Hid prod; rw [hM, hT, hP]
  rw [hP] at hb
  obtain ⟨hb1, hb2⟩ := hb
  have e1 : (if t < 0 then 0 else t) = M := by rw [← hM]; split <;> omega
  have e2 : (if 1073741824 < M then 1073741824 else M) = T := by rw [← hT]; split <;> omega
  have e3 : (if 1073741824 < P then 1073741824 else P) = min P 1073741824 := by split <;> omega
  clear hM hT
  go_enter Try.func31, Try.ntmps31
  go_wp2
  go_ret
  exact ⟨by rw [HE.out]; rfl, rfl⟩
end Go.Proofs.Ytjblccgkocknbaa.wid
