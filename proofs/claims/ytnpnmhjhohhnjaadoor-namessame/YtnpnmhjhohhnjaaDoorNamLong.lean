/- names.Long: the long name of a value's short one. -/
import Derived.Test.YtnpnmhjhohhnjaaDoorNamResolve
set_option linter.unusedVariables false
set_option linter.unusedSimpArgs false
namespace Go.Proofs.YtnpnmhjhohhnjaaDoor.nam
open Go.RowKit lin

def longL (n : Int) (v : List UInt8) : List UInt8 × Bool :=
  match lookL (kindL n, looseL v) with
  | none => ([], false)
  | some r => if r.2.1 = v then (r.2.2, true) else ([], false)
theorem long0 {n : Int} {v : List UInt8} (h : lookL (kindL n, looseL v) = none) : longL n v = ([], false) := by unfold longL; rw [h]
theorem long1 {n : Int} {v : List UInt8} {r : R3} (h : lookL (kindL n, looseL v) = some r) (h2 : r.2.1 = v) : longL n v = (r.2.2, true) := by unfold longL; simp only [h]; rw [if_pos h2]
theorem long2 {n : Int} {v : List UInt8} {r : R3} (h : lookL (kindL n, looseL v) = some r) (h2 : ¬ r.2.1 = v) : longL n v = ([], false) := by unfold longL; simp only [h]; rw [if_neg h2]
theorem kindL_len (n : Int) : (kindL n).length ≤ 2 := by unfold kindL; (repeat' split) <;> simp
theorem beqT2 {k L : List UInt8} (h : k = L) : ((BA k).toList == (BA L).toList) = true := by rw [h]; exact beq_self_eq_true _
theorem beqF2 {k L : List UInt8} (h : ¬ k = L) : ((BA k).toList == (BA L).toList) = false := by rw [beq_eq_false_iff_ne, Lib.toList_data, Lib.toList_data, BA_data, BA_data]; exact h

set_option maxHeartbeats 1500000 in
set_option maxRecDepth 100000 in
theorem long_any (n : Int) (v : List UInt8) (w : World) (hv : v.length ≤ 140737488355327) :
    Calls Tryd.prog 13 #[.int .i64 n, .string (BA v)] w fun e w' => e = .returned (.tuple #[.string (BA (longL n v).1), .bool (longL n v).2]) ∧ Below w.heap.size w w' := by
  have FA := file_any w
  have hkl := kindL_len n
  have hll := looseL_len v
  go_enter Tryd.func13, Tryd.ntmps13
  go_wp2_with fail
  refine FA.mono ?_
  rintro e w1 ⟨b, rfl, hb, hm1, b1⟩
  clear FA
  have KA := kind_any n w1
  have LO := loose_any (BA v) w1 (by rw [BA_size]; omega)
  rw [BA_data] at LO
  have hs1 := b1.size
  have H0 : Hid (lookL (kindL n, looseL v) = none → longL n v = ([], false)) := long0
  have H1 : Hid (∀ r : R3, lookL (kindL n, looseL v) = some r → r.2.1 = v → longL n v = (r.2.2, true)) := fun r => long1
  have H2 : Hid (∀ r : R3, lookL (kindL n, looseL v) = some r → ¬ r.2.1 = v → longL n v = ([], false)) := fun r => long2
  generalize looseL v = l at *
  generalize kindL n = kl at *
  go_wp2_with fail
  refine KA.mono ?_
  rintro e wk ⟨rfl, hwk⟩
  rw [hwk]
  clear KA hwk
  go_wp2_with fail
  refine LO.mono ?_
  rintro e w2 ⟨rfl, hb2⟩
  clear LO
  have hm2 := hm1.below hb2
  have b2 := b1.trans (hb2.mono hs1)
  have hs2 := b2.size
  clear hm1 hb2 b1
  cases hlk : lookL (kl, l) with
  | none =>
    have LK := look_none hm2 (k := kl) (l := l) (by omega) (by omega) hlk
    have HE : Hid (longL n v = ([], false)) := H0.out hlk
    clear hlk H0 H1 H2 hm2
    go_wp2
    go_ret2
    exact ⟨by rw [HE.out]; rfl, b2.alloc hs2 _⟩
  | some r =>
    have LK := look_some hm2 (k := kl) (l := l) (by omega) (by omega) hlk
    by_cases hr : r.2.1 = v
    · have HE : Hid (longL n v = (r.2.2, true)) := H1.out r hlk hr
      have t1 := beqT2 hr
      clear hlk H0 H1 H2 hm2 hr
      go_wp2
      go_ret2
      exact ⟨by rw [HE.out]; rfl, b2.alloc hs2 _⟩
    · have HE : Hid (longL n v = ([], false)) := H2.out r hlk hr
      have t1 := beqF2 hr
      clear hlk H0 H1 H2 hm2 hr
      go_wp2
      go_ret2
      exact ⟨by rw [HE.out]; rfl, b2.alloc hs2 _⟩
end Go.Proofs.YtnpnmhjhohhnjaaDoor.nam
