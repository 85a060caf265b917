/- What lines.digitsOf answers of a code point: the document's digits. -/
import Derived.Test.YtciblkmbkdhdiaaDoorLinFmt
import Derived.Test.YtciblkmbkdhdiaaDoorLinShelfB
set_option linter.unusedVariables false
set_option linter.unusedSimpArgs false
namespace Go.Proofs.YtciblkmbkdhdiaaDoor.lin
open Go.RowKit

theorem upper_digit : ∀ d : Fin 16, Lib.upperB (dL d.val) = dU d.val := by decide +kernel
theorem ascii_digit : ∀ d : Fin 16, (dL d.val).toNat < 128 := by decide +kernel
theorem hexU_lowL : ∀ n, 0 < n → hexU n = (lowL n).map Lib.upperB := by
  intro n
  induction n using Nat.strongRecOn with
  | _ n ih =>
    intro h
    rcases Nat.lt_or_ge n 16 with hn | hn
    · rw [lowL_small n hn, hexU_pos n h, Nat.div_eq_of_lt hn, hexU_zero, Nat.mod_eq_of_lt hn]
      show [dU n] = [Lib.upperB (dL n)]
      rw [upper_digit ⟨n, hn⟩]
    · rw [lowL_step n hn, hexU_pos n h, ih (n / 16) (by omega) (by omega), List.map_append]
      show _ ++ [dU (n % 16)] = _ ++ [Lib.upperB (dL (n % 16))]
      rw [upper_digit ⟨n % 16, Nat.mod_lt _ (by decide)⟩]
theorem lowL_ascii : ∀ n, ∀ x ∈ lowL n, x.toNat < 128 := by
  intro n
  induction n using Nat.strongRecOn with
  | _ n ih =>
    intro x hx
    rcases Nat.lt_or_ge n 16 with hn | hn
    · rw [lowL_small n hn] at hx
      obtain rfl := List.mem_singleton.1 hx
      exact ascii_digit ⟨n, hn⟩
    · rw [lowL_step n hn] at hx
      rcases List.mem_append.1 hx with hx | hx
      · exact ih (n / 16) (by omega) x hx
      · obtain rfl := List.mem_singleton.1 hx
        exact ascii_digit ⟨n % 16, Nat.mod_lt _ (by decide)⟩
theorem repeat_zero (k : Nat) : Lib.repeatL [48] k = List.replicate k 48 := by
  induction k with
  | zero => rfl
  | succ k ih => rw [Lib.repeatL, ih]; rfl
theorem pointL_lowL (n : Nat) : pointL n = Lib.repeatL [48] (4 - ((lowL n).map Lib.upperB).length) ++ (lowL n).map Lib.upperB := by
  rw [repeat_zero]
  rcases Nat.eq_zero_or_pos n with rfl | h
  · unfold pointL
    rw [hexU_zero, lowL_small 0 (by decide)]
    decide +kernel
  · unfold pointL
    rw [hexU_lowL n h]

set_option maxHeartbeats 1000000 in
theorem digits_any (n : Nat) (w : World) (hn : n ≤ 1114111) (h : w.cell? ⟨6, 15, none⟩ = some (.int .u8 4)) (hlt : 6 < w.heap.size) :
    Calls Tryd.prog 34 #[.int .i64 n] w fun e w' => e = .returned (.string (BA (pointL n))) ∧ Below w.heap.size w w' := by
  have FM := fmt_any n w (by omega) h hlt
  have HP : Hid (pointL n = Lib.repeatL [48] (4 - ((lowL n).map Lib.upperB).length) ++ (lowL n).map Lib.upperB) := pointL_lowL n
  have hl := lowL_len 7 n (by omega)
  have UP := fun W => Tryd.strings_ToUpper_ascii (BA (lowL n)) W (by rw [BA_size]; omega) (fun j b hb => lowL_ascii n b (List.mem_of_getElem? hb))
  have UP2 : ∀ W, Calls Tryd.prog 45 #[.string (BA (lowL n))] W fun e w' => e = .returned (.string (BA ((lowL n).map Lib.upperB))) ∧ Below W.heap.size W w' := UP
  have hlm : ((lowL n).map Lib.upperB).length ≤ 8 := by rw [List.length_map]; exact hl
  clear h UP
  generalize lowL n = L at *
  generalize L.map Lib.upperB = U at *
  go_enter Tryd.func34, Tryd.ntmps34
  go_wp2_with fail
  refine FM.mono ?_
  rintro e w1 ⟨rfl, b1⟩
  clear FM
  go_wp2_with fail
  refine (UP2 w1).mono ?_
  rintro e w2 ⟨rfl, b2⟩
  clear UP2
  have b12 := b1.trans (b2.mono b1.size)
  have RP := Tryd.strings_Repeat ⟨#[48]⟩ (4 - U.length) w2 (by omega) (by show 1 * (4 - U.length) ≤ _; omega)
  have em : ((4 - U.length : Nat) : Int) = max 0 (4 - (U.length : Int)) := by omega
  rw [em] at RP
  have RP2 : Calls Tryd.prog 47 #[.string ⟨#[48]⟩, .int .i64 (max 0 (4 - (U.length : Int)))] w2 fun e w' => e = .returned (.string (BA (Lib.repeatL [48] (4 - U.length)))) ∧ Below w2.heap.size w2 w' := RP
  have hrl : (Lib.repeatL [48] (4 - U.length)).length ≤ 4 := by rw [repeat_zero, List.length_replicate]; omega
  clear RP em
  generalize Lib.repeatL [48] (4 - U.length) = R at *
  have HS : Hid (BA R ++ BA U = BA (pointL n)) := by rw [Hid, BA_append, HP.out]
  have hsz : (BA U).size = U.length := rfl
  have hsr : (BA R).size = R.length := rfl
  go_wp2_with fail
  refine RP2.mono ?_
  rintro e w3 ⟨rfl, b3⟩
  have b13 := b12.trans (b3.mono b12.size)
  clear RP2
  go_wp2
  go_ret
  exact ⟨by rw [← HS.out]; rfl, b13⟩
end Go.Proofs.YtciblkmbkdhdiaaDoor.lin
