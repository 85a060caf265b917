/- A code point in digits: what the document's point answers. -/
import Derived.Test.YtciblkmbkdhdiaaDoorLinPure
import Derived.Deep.QuietTactic
import Derived.BigQuiet
set_option linter.unusedVariables false
set_option linter.unusedSimpArgs false
namespace Go.Proofs.YtciblkmbkdhdiaaDoor.lin
open Go.RowKit

/-- A digit, great. -/
def dU (n : Nat) : UInt8 := if n < 10 then UInt8.ofNat (48 + n) else UInt8.ofNat (55 + n)
/-- The digits of a number, great; none of 0. -/
def hexU (n : Nat) : List UInt8 := if h : n = 0 then [] else hexU (n / 16) ++ [dU (n % 16)]
termination_by n
decreasing_by omega
theorem hexU_zero : hexU 0 = [] := by rw [hexU]; simp
theorem hexU_pos (n : Nat) (h : 0 < n) : hexU n = hexU (n / 16) ++ [dU (n % 16)] := by rw [hexU, dif_neg (by omega)]
/-- Four digits at least. -/
def pointL (n : Nat) : List UInt8 := List.replicate (4 - (hexU n).length) 48 ++ hexU n
/-- What is still to come of a number, ahead of k digits. -/
def ahead (r k : Nat) : List UInt8 := List.replicate (4 - k - (hexU r).length) 48 ++ hexU r
theorem ahead_step (r k : Nat) (h : 0 < r ∨ k < 4) : ahead r k = ahead (r / 16) (k + 1) ++ [dU (r % 16)] := by
  unfold ahead
  rcases Nat.eq_zero_or_pos r with rfl | hr
  · have hk : k < 4 := by omega
    rw [hexU_zero]
    simp only [Nat.zero_div, hexU_zero, List.length_nil, Nat.sub_zero, List.append_nil]
    rw [show 4 - k = (4 - (k + 1)) + 1 from by omega, List.replicate_succ']
    rfl
  · rw [hexU_pos r hr, List.length_append, List.length_singleton, ← List.append_assoc]
    congr 2
    rw [show 4 - k - ((hexU (r / 16)).length + 1) = 4 - (k + 1) - (hexU (r / 16)).length from by omega]
theorem ahead_end (k : Nat) (h : 4 ≤ k) : ahead 0 k = [] := by
  unfold ahead
  rw [hexU_zero]
  simp
  omega
theorem hexU_len : ∀ k n, n < 16 ^ k → (hexU n).length ≤ k := by
  intro k
  induction k with
  | zero =>
    intro n h
    rw [Nat.pow_zero] at h
    rw [show n = 0 from by omega, hexU_zero]
    exact Nat.le_refl _
  | succ k ih =>
    intro n h
    rcases Nat.eq_zero_or_pos n with rfl | hn
    · rw [hexU_zero]; simp
    · rw [hexU_pos n hn, List.length_append, List.length_singleton]
      have := ih (n / 16) (by rw [Nat.pow_succ] at h; omega)
      omega

theorem digit_slice (d : Nat) (h : d < 16) : (ByteArray.extract ⟨#[48, 49, 50, 51, 52, 53, 54, 55, 56, 57, 65, 66, 67, 68, 69, 70]⟩ d (d + 1)) = BA [dU d] := by
  have : ∀ d : Fin 16, ((ByteArray.extract ⟨#[48, 49, 50, 51, 52, 53, 54, 55, 56, 57, 65, 66, 67, 68, 69, 70]⟩ d.val (d.val + 1)).data.toList = [dU d.val]) := by decide +kernel
  apply ByteArray.ext
  apply Array.ext'
  exact this ⟨d, h⟩

theorem BA_append (a b : List UInt8) : BA a ++ BA b = BA (a ++ b) := by
  apply ByteArray.ext
  apply Array.ext'
  show (BA a ++ BA b).data.toList = a ++ b
  rw [ByteArray.data_append, Array.toList_append]
  rfl

set_option maxHeartbeats 1000000 in
set_option maxRecDepth 100000 in
theorem point_any (n : Nat) (w : World) (hn : n ≤ 9223372036854775807) :
    Calls Tryd.prog 37 #[.int .i64 n] w fun e w' => e = .returned (.string (BA (pointL n))) ∧ Below w.heap.size w w' := by
  go_enter Tryd.func37, Tryd.ntmps37
  go_wp2
  go_loopg [0, 3] (n + 4) (fun k v t wr => ∃ (r : Nat) (q : List UInt8), v = .int .i64 r ∧ t = .string (BA q) ∧ k = r + (4 - q.length) ∧ r ≤ n ∧ q.length ≤ 1000 ∧ Hid (ahead r q.length ++ q = pointL n) ∧ Below w.heap.size w wr)
  case atStart => exact ⟨n, [], rfl, rfl, rfl, Nat.le_refl _, by simp, by rw [Hid, List.append_nil]; rfl, Below.refl _ _⟩
  case round =>
    obtain ⟨r, q, rfl, rfl, hgk, hrn, hql, HH, hbel⟩ := hrel
    have HGK : Hid (gk = r + (4 - q.length)) := hgk
    clear hgk
    have hlen : (BA q).size = q.length := rfl
    have hq20 : q.length ≤ 20 := by
      have h1 := congrArg List.length HH.out
      rw [List.length_append] at h1
      have h2 := hexU_len 16 n (by omega)
      unfold pointL at h1
      rw [List.length_append, List.length_replicate] at h1
      omega
    have em : Int.tmod (r : Int) 16 = ((r % 16 : Nat) : Int) := rfl
    have ed : Int.tdiv (r : Int) 16 = ((r / 16 : Nat) : Int) := rfl
    have hm16 : r % 16 < 16 := Nat.mod_lt _ (by decide)
    have HS : Hid ((ByteArray.extract ⟨#[48, 49, 50, 51, 52, 53, 54, 55, 56, 57, 65, 66, 67, 68, 69, 70]⟩ (r % 16) (r % 16 + 1)) ++ BA q = BA (dU (r % 16) :: q)) := by rw [Hid, digit_slice _ hm16, BA_append]; rfl
    have HA : Hid (0 < r ∨ q.length < 4 → ahead (r / 16) (dU (r % 16) :: q).length ++ (dU (r % 16) :: q) = pointL n) := by
      intro h
      rw [← HH.out, ahead_step r q.length h, List.append_assoc]
      rfl
    have HRD : Hid (r / 16 ≤ n) := Nat.le_trans (Nat.div_le_self _ _) hrn
    clear em ed
    rcases Nat.eq_zero_or_pos r with hr | hr
    · by_cases hq4 : q.length < 4
      · subst hr
        have HS0 : Hid ((ByteArray.extract ⟨#[48, 49, 50, 51, 52, 53, 54, 55, 56, 57, 65, 66, 67, 68, 69, 70]⟩ 0 1) ++ BA q = BA (dU 0 :: q)) := HS.out
        have HA0 : Hid (ahead 0 (dU 0 :: q).length ++ (dU 0 :: q) = pointL n) := HA.out (.inr hq4)
        have t2 : (q.length : Int) < 4 := by omega
        clear HS HA
        go_wp2
        go_roundg (0 + (4 - (q.length + 1)))
        case measure => have := HGK.out; omega
        case rel => exact ⟨0, dU 0 :: q, rfl, by rw [HS0.out], rfl, Nat.zero_le _, by simp; omega, HA0, hbel⟩
      · have HE : Hid (q = pointL n) := by
          have h := HH.out
          rw [hr, ahead_end _ (by omega)] at h
          exact h
        have HZ : Hid (r = 0) := hr
        clear hr
        have t1 : ¬ (0 : Int) < (r : Int) := by have := HZ.out; omega
        have t2 : ¬ (q.length : Int) < 4 := by omega
        go_wp2
        go_ret
        exact ⟨by rw [← HE.out]; rfl, hbel⟩
    · have t1 : (0 : Int) < (r : Int) := by omega
      go_wp2
      go_roundg (r / 16 + (4 - (q.length + 1)))
      case measure => have := HGK.out; omega
      case rel => exact ⟨r / 16, dU (r % 16) :: q, rfl, by rw [HS.out], rfl, HRD.out, by simp; omega, HA.out (.inl hr), hbel⟩
end Go.Proofs.YtciblkmbkdhdiaaDoor.lin
