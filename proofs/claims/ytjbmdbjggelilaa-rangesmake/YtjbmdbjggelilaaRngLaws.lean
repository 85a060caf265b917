/- The walks of the statements over ranges. -/
import Derived.Test.YtjbmdbjggelilaaRngCalls
set_option linter.unusedVariables false
set_option linter.unusedSimpArgs false
namespace Go.Proofs.Ytjbmdbjggelilaa.rng
open Go.RowKit

theorem take40 (l : List R) : (l.take 40).length ≤ 1000000 := by rw [List.length_take]; omega
theorem eq_self (b : Bool) : (b == b) = true := by cases b <;> rfl

set_option maxHeartbeats 1000000 in
theorem law_make (v : Value) (l : List R) (x : Int) (w : World) (ha : Arg w v l) :
    Calls Try.prog 3 #[v, .int .i64 x] w fun e w' => e = .returned (.bool true) ∧ Below w.heap.size w w' := by
  have C := short_s v l w ha
  clear ha
  have hn := take40 l
  generalize l.take 40 = a at *
  have HN : Hid (a.length ≤ 1000000) := hn
  clear hn
  go_enter Try.func3, Try.ntmps3
  go_wp2_with fail
  refine C.mono ?_
  rintro e wz ⟨va, rfl, hs, rfl⟩
  have HA : Hid (Sl wz va a) := hs
  clear C hs
  go_wp2_with fail
  refine (clone_s va a _ HA.out HN.out).mono ?_
  rintro e w1 ⟨vg, rfl, hg, b1⟩
  have HG : Hid (Sl w1 vg a) := hg
  clear hg
  go_wp2_with fail
  refine (make_s vg a _ HG.out HN.out).mono ?_
  rintro e w2 ⟨v2, r2, rfl, s2, i2, d2⟩
  have b2 := b1.trans (d2.mono b1.size)
  go_wp2_with fail
  refine (rmake_s va a _ (HA.out.below b2) HN.out).mono ?_
  rintro e w3 ⟨v3, r3, rfl, s3, i3, d3⟩
  have b3 := b2.trans (d3.mono b2.size)
  have c3 := d2.trans (d3.mono d2.size)
  go_wp2_with fail
  refine (equal_s v2 v3 r2 r3 _ (s2.below d3) s3 (by have := can_len i2.1; omega) (i2.eq i3 (fun _ _ => rfl))).mono ?_
  rintro e w4 ⟨rfl, d4⟩
  have b4 := b3.trans (d4.mono b3.size)
  have c4 := c3.trans (d4.mono c3.size)
  clear s2 s3 i2 i3 d2 d3 d4 b2 b3 c3
  go_wp2_with fail
  refine (can_s vg a _ (HG.out.below c4) HN.out).mono ?_
  rintro e w5 ⟨rfl, d5⟩
  have b5 := b4.trans (d5.mono b4.size)
  have c5 := c4.trans (d5.mono c4.size)
  go_wp2_with fail
  refine (rcan_s va a _ (HA.out.below b5) HN.out).mono ?_
  rintro e w6 ⟨rfl, d6⟩
  have b6 := b5.trans (d6.mono b5.size)
  have c6 := c5.trans (d6.mono c5.size)
  have e0 := eq_self (canB 0 a)
  clear d5 d6 b4 b5 c4 c5
  generalize canB 0 a = V at *
  go_wp2_with fail
  refine (size_s vg a _ (HG.out.below c6) HN.out).mono ?_
  rintro e w7 ⟨r7, rfl, i7, d7⟩
  have b7 := b6.trans (d7.mono b6.size)
  have c7 := c6.trans (d7.mono c6.size)
  go_wp2_with fail
  refine (rsize_s va a _ (HA.out.below b7) HN.out).mono ?_
  rintro e w8 ⟨r8, rfl, i8, d8⟩
  have b8 := b7.trans (d8.mono b7.size)
  have c8 := c7.trans (d8.mono c7.size)
  obtain rfl := i7.eq i8 (fun _ _ => rfl)
  have e1 : (tot r7 == tot r7) = true := by simp
  clear i7 i8 d7 d8 b6 b7 c6 c7
  generalize tot r7 = T at *
  go_wp2_with fail
  refine (has_s vg a x _ (HG.out.below c8) HN.out).mono ?_
  rintro e w9 ⟨rfl, d9⟩
  have b9 := b8.trans (d9.mono b8.size)
  have c9 := c8.trans (d9.mono c8.size)
  go_wp2_with fail
  refine (rhas_s va a x _ (HA.out.below b9) HN.out).mono ?_
  rintro e wA ⟨rfl, dA⟩
  have bA := b9.trans (dA.mono b9.size)
  have cA := c9.trans (dA.mono c9.size)
  have e2 := eq_self (has a x)
  clear d9 dA b8 b9 c8 c9
  generalize has a x = X at *
  go_wp2_with fail
  refine (equal_s vg va a a _ (HG.out.below cA) (HA.out.below bA) HN.out rfl).mono ?_
  rintro e wB ⟨rfl, dB⟩
  have bB := bA.trans (dB.mono bA.size)
  go_wp2_with fail
  refine (awake_any _).mono ?_
  rintro e wC ⟨rfl, dC⟩
  go_wp2
  go_ret
  exact ⟨rfl, bB.trans (dC.mono bB.size)⟩
end Go.Proofs.Ytjbmdbjggelilaa.rng
