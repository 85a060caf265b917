/- What lines.boundsOf answers of any field: the two code points, if it says them. -/
import Derived.Test.YtciblkmbkdhdiaaDoorLinHex2
import Derived.Test.YtciblkmbkdhdiaaDoorLinShelf
import Derived.Lib.IndexMore
import Derived.OwnWalk
set_option linter.unusedVariables false
set_option linter.unusedSimpArgs false
namespace Go.Proofs.YtciblkmbkdhdiaaDoor.lin
open Go.RowKit

/-- What stands ahead of, and behind, the first two dots; the field itself twice, if it has none. -/
def firstV (s : ByteArray) : ByteArray := ⟨(Lib.cut s.data.toList [46, 46]).1.toArray⟩
def secondV (s : ByteArray) : ByteArray := if (Lib.cut s.data.toList [46, 46]).2.2 then ⟨(Lib.cut s.data.toList [46, 46]).2.1.toArray⟩ else firstV s
def boundsB (s : ByteArray) : Bool := hexB (firstV s) && hexB (secondV s) && decide (hexN (firstV s) ≤ hexN (secondV s))
def boundsLo (s : ByteArray) : Int := if boundsB s then hexN (firstV s) else 0
def boundsHi (s : ByteArray) : Int := if boundsB s then hexN (secondV s) else 0

theorem cut_len (s t : List UInt8) : (Lib.cut s t).1.length ≤ s.length ∧ (Lib.cut s t).2.1.length ≤ s.length := by
  unfold Lib.cut
  split
  · simp; omega
  · simp
theorem first_size (s : ByteArray) : (firstV s).size ≤ s.size := by
  show (Lib.cut s.data.toList [46, 46]).1.toArray.size ≤ s.data.size
  have := (cut_len s.data.toList [46, 46]).1
  simpa using this
theorem second_size (s : ByteArray) : (secondV s).size ≤ s.size := by
  unfold secondV
  split
  · show (Lib.cut s.data.toList [46, 46]).2.1.toArray.size ≤ s.data.size
    have := (cut_len s.data.toList [46, 46]).2
    simpa using this
  · exact first_size s

theorem below_drewN {w : World} (n : Nat) : Below w.heap.size w (w.drewN n) := by
  induction n generalizing w with
  | zero => exact Below.refl _ _
  | succ n ih => exact ih.drew

set_option maxHeartbeats 1000000 in
theorem bounds_any (s : ByteArray) (w : World) (m : Int) (hs : s.size ≤ 1073741824) (hm : w.cell? ⟨2, 0, none⟩ = some (.int .i64 m)) :
    Calls Tryd.prog 41 #[.string s] w fun e w' => e = .returned (.tuple #[.int .i64 (boundsLo s), .int .i64 (boundsHi s), .bool (boundsB s)]) ∧ Below w.heap.size w w' := by
  have CU := Tryd.strings_Cut s ⟨#[46, 46]⟩ m w (by omega) hm
  have CU2 : Calls Tryd.prog 52 #[.string s, .string ⟨#[46, 46]⟩] w fun e w' => e = .returned (.tuple #[.string (firstV s), .string ⟨(Lib.cut s.data.toList [46, 46]).2.1.toArray⟩, .bool (Lib.cut s.data.toList [46, 46]).2.2]) ∧ Below w.heap.size w w' :=
    CU.mono (fun e w' ⟨h, n, h'⟩ => ⟨h, by rw [h']; exact below_drewN n⟩)
  clear CU
  have z1 := first_size s
  have z2 := second_size s
  have hB : Hid (boundsB s = (hexB (firstV s) && hexB (secondV s) && decide (hexN (firstV s) ≤ hexN (secondV s)))) := rfl
  have hL : Hid (boundsLo s = if boundsB s then hexN (firstV s) else 0) := rfl
  have hH : Hid (boundsHi s = if boundsB s then hexN (secondV s) else 0) := rfl
  have hE : Hid (secondV s = if (Lib.cut s.data.toList [46, 46]).2.2 then ⟨(Lib.cut s.data.toList [46, 46]).2.1.toArray⟩ else firstV s) := rfl
  generalize firstV s = f at *
  generalize secondV s = g at *
  generalize (⟨(Lib.cut s.data.toList [46, 46]).2.1.toArray⟩ : ByteArray) = g0 at *
  generalize (Lib.cut s.data.toList [46, 46]).2.2 = two at *
  generalize boundsLo s = lo at *
  generalize boundsHi s = hi at *
  generalize boundsB s = ok at *
  have fin : ∀ w1, Below w.heap.size w w1 → Calls Tryd.prog 18 #[.string f] w1 fun e w2 => ∃ k, e = .returned (.tuple #[.int .i64 (hexN f), .bool (hexB f)]) ∧ Below w.heap.size w w2 ∧ k = 0 := fun w1 hb =>
    (hex_any f w1 (by omega)).mono (fun e w2 ⟨h, hb2⟩ => ⟨0, h, hb.trans (hb2.mono hb.size), rfl⟩)
  have fin2 : ∀ w1, Below w.heap.size w w1 → Calls Tryd.prog 18 #[.string g] w1 fun e w2 => ∃ k, e = .returned (.tuple #[.int .i64 (hexN g), .bool (hexB g)]) ∧ Below w.heap.size w w2 ∧ k = 0 := fun w1 hb =>
    (hex_any g w1 (by omega)).mono (fun e w2 ⟨h, hb2⟩ => ⟨0, h, hb.trans (hb2.mono hb.size), rfl⟩)
  generalize hexN f = x at *
  generalize hexN g = y at *
  generalize hexB f = a at *
  generalize hexB g = b at *
  go_enter Tryd.func41, Tryd.ntmps41
  go_wp2_with fail
  refine CU2.mono ?_
  rintro e w1 ⟨rfl, hb1⟩
  clear CU2
  cases two with
  | false =>
    have hgf : g = f := by have := hE.out; simpa using this
    subst hgf
    go_wp2_with fail
    refine (fin w1 hb1).mono ?_
    rintro e w2 ⟨k, rfl, hb2, _⟩
    go_wp2_with fail
    refine (fin2 w2 hb2).mono ?_
    rintro e w3 ⟨k, rfl, hb3, _⟩
    have hbf : Hid (Below w.heap.size w w3) := hb3
    clear hb1 hb2 hb3 fin fin2
    cases a with
    | false =>
      obtain rfl : ok = false := by rw [hB.out]; rfl
      obtain rfl : lo = 0 := hL.out
      obtain rfl : hi = 0 := hH.out
      go_wp2
      go_ret3
      exact ⟨rfl, hbf.out⟩
    | true =>
      cases b with
      | false =>
        obtain rfl : ok = false := by rw [hB.out]; rfl
        obtain rfl : lo = 0 := hL.out
        obtain rfl : hi = 0 := hH.out
        go_wp2
        go_ret3
        exact ⟨rfl, hbf.out⟩
      | true =>
        by_cases hxy : x ≤ y
        · have t1 : decide (y < x) = false := by rw [decide_eq_false_iff_not]; omega
          obtain rfl : ok = true := by rw [hB.out]; simp [hxy]
          obtain rfl : lo = x := by rw [hL.out, if_pos rfl]
          obtain rfl : hi = y := by rw [hH.out, if_pos rfl]
          go_wp2
          go_ret3
          exact ⟨rfl, hbf.out⟩
        · have t1 : decide (y < x) = true := by rw [decide_eq_true_iff]; omega
          obtain rfl : ok = false := by rw [hB.out]; simp [hxy]
          obtain rfl : lo = 0 := hL.out
          obtain rfl : hi = 0 := hH.out
          go_wp2
          go_ret3
          exact ⟨rfl, hbf.out⟩
  | true =>
    have hgf : g = g0 := by have := hE.out; simpa using this
    subst hgf
    go_wp2_with fail
    refine (fin w1 hb1).mono ?_
    rintro e w2 ⟨k, rfl, hb2, _⟩
    go_wp2_with fail
    refine (fin2 w2 hb2).mono ?_
    rintro e w3 ⟨k, rfl, hb3, _⟩
    have hbf : Hid (Below w.heap.size w w3) := hb3
    clear hb1 hb2 hb3 fin fin2
    cases a with
    | false =>
      obtain rfl : ok = false := by rw [hB.out]; rfl
      obtain rfl : lo = 0 := hL.out
      obtain rfl : hi = 0 := hH.out
      go_wp2
      go_ret3
      exact ⟨rfl, hbf.out⟩
    | true =>
      cases b with
      | false =>
        obtain rfl : ok = false := by rw [hB.out]; rfl
        obtain rfl : lo = 0 := hL.out
        obtain rfl : hi = 0 := hH.out
        go_wp2
        go_ret3
        exact ⟨rfl, hbf.out⟩
      | true =>
        by_cases hxy : x ≤ y
        · have t1 : decide (y < x) = false := by rw [decide_eq_false_iff_not]; omega
          obtain rfl : ok = true := by rw [hB.out]; simp [hxy]
          obtain rfl : lo = x := by rw [hL.out, if_pos rfl]
          obtain rfl : hi = y := by rw [hH.out, if_pos rfl]
          go_wp2
          go_ret3
          exact ⟨rfl, hbf.out⟩
        · have t1 : decide (y < x) = true := by rw [decide_eq_true_iff]; omega
          obtain rfl : ok = false := by rw [hB.out]; simp [hxy]
          obtain rfl : lo = 0 := hL.out
          obtain rfl : hi = 0 := hH.out
          go_wp2
          go_ret3
          exact ⟨rfl, hbf.out⟩
end Go.Proofs.YtciblkmbkdhdiaaDoor.lin
