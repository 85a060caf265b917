/- Texts that the proof leans on, one behind the other. -/
import Derived.Test.YtbdediacfckpcaaGreatDoorBdTok9
import Derived.Test.YtbdediacfckpcaaGreatDoorBdTok10
import Derived.Test.YtbdediacfckpcaaGreatDoorBdTok11

section
/- The document's Print: the marks outside a class. -/
set_option linter.unusedVariables false
set_option linter.unusedSimpArgs false
namespace Go.Proofs.YtbdediacfckpcaaGreatDoor.tok
open Go.RowKit
open utf (len enc)
open lin (BA Turns)

set_option maxHeartbeats 4000000 in
set_option maxRecDepth 100000 in
theorem rpr_mark_false_46 (w : World) : Calls Tryz.prog 24 #[.int .i64 46, .bool false] w fun e w' => e = .returned (.string (TX (printL 46 false))) ∧ Below w.heap.size w w' := by
  have hr : len 46 ≠ 0 := by decide
  have C := utf.renc_yes 46 w hr
  have CV := enc_text 46 w
  obtain ⟨W, hW⟩ : ∃ W, w.alloc (utf.encBlock 46) = W := ⟨_, rfl⟩
  have HB : Hid (Below w.heap.size w W) := by unfold Hid; rw [← hW]; exact (Below.refl _ _).alloc (Nat.le_refl _) _
  rw [hW] at C CV
  clear hW
  have hp := utf.enc_pos 46 hr
  have hs := TX_size (enc 46)
  have HT : Hid (TX (printL 46 false) = ⟨#[92]⟩ ++ TX (enc 46)) := TX_app [92] (enc 46)
  obtain ⟨X, hX⟩ : ∃ X, TX (enc 46) = X := ⟨_, rfl⟩
  rw [hX] at CV hs HT
  obtain ⟨K, hK⟩ : ∃ K, (enc 46).length = K := ⟨_, rfl⟩
  rw [hK] at C CV hs hp
  clear hX hK
  rw [HT.out]
  have s1 : ByteArray.size ⟨#[92]⟩ = 1 := rfl
  clear HT hr
  have n0 : (wrap64 ((((⟨#[46, 91, 40, 124, 41, 42, 43, 63, 123, 94, 36, 92]⟩ : ByteArray)[0]'(by decide)).toNat : Int)) == 46) = true := by decide +kernel
  go_enter Tryz.func24, Tryz.ntmps24
  go_wp2_with fail
  refine C.mono ?_
  rintro e w1 ⟨rfl, rfl⟩
  clear C
  go_wp2_with fail
  refine wp_loop_rounds 13 ?_
  rw [rounds_succ]
  go_wp2
  go_ret
  exact ⟨rfl, HB.out⟩
set_option maxHeartbeats 4000000 in
set_option maxRecDepth 100000 in
theorem rpr_mark_false_91 (w : World) : Calls Tryz.prog 24 #[.int .i64 91, .bool false] w fun e w' => e = .returned (.string (TX (printL 91 false))) ∧ Below w.heap.size w w' := by
  have hr : len 91 ≠ 0 := by decide
  have C := utf.renc_yes 91 w hr
  have CV := enc_text 91 w
  obtain ⟨W, hW⟩ : ∃ W, w.alloc (utf.encBlock 91) = W := ⟨_, rfl⟩
  have HB : Hid (Below w.heap.size w W) := by unfold Hid; rw [← hW]; exact (Below.refl _ _).alloc (Nat.le_refl _) _
  rw [hW] at C CV
  clear hW
  have hp := utf.enc_pos 91 hr
  have hs := TX_size (enc 91)
  have HT : Hid (TX (printL 91 false) = ⟨#[92]⟩ ++ TX (enc 91)) := TX_app [92] (enc 91)
  obtain ⟨X, hX⟩ : ∃ X, TX (enc 91) = X := ⟨_, rfl⟩
  rw [hX] at CV hs HT
  obtain ⟨K, hK⟩ : ∃ K, (enc 91).length = K := ⟨_, rfl⟩
  rw [hK] at C CV hs hp
  clear hX hK
  rw [HT.out]
  have s1 : ByteArray.size ⟨#[92]⟩ = 1 := rfl
  clear HT hr
  have n0 : (wrap64 ((((⟨#[46, 91, 40, 124, 41, 42, 43, 63, 123, 94, 36, 92]⟩ : ByteArray)[0]'(by decide)).toNat : Int)) == 91) = false := by decide +kernel
  have n1 : (wrap64 ((((⟨#[46, 91, 40, 124, 41, 42, 43, 63, 123, 94, 36, 92]⟩ : ByteArray)[1]'(by decide)).toNat : Int)) == 91) = true := by decide +kernel
  go_enter Tryz.func24, Tryz.ntmps24
  go_wp2_with fail
  refine C.mono ?_
  rintro e w1 ⟨rfl, rfl⟩
  clear C
  go_wp2_with fail
  refine wp_loop_rounds 13 ?_
  rw [rounds_succ]
  go_wp2
  rw [rounds_succ]
  go_wp2
  go_ret
  exact ⟨rfl, HB.out⟩
set_option maxHeartbeats 4000000 in
set_option maxRecDepth 100000 in
theorem rpr_mark_false_40 (w : World) : Calls Tryz.prog 24 #[.int .i64 40, .bool false] w fun e w' => e = .returned (.string (TX (printL 40 false))) ∧ Below w.heap.size w w' := by
  have hr : len 40 ≠ 0 := by decide
  have C := utf.renc_yes 40 w hr
  have CV := enc_text 40 w
  obtain ⟨W, hW⟩ : ∃ W, w.alloc (utf.encBlock 40) = W := ⟨_, rfl⟩
  have HB : Hid (Below w.heap.size w W) := by unfold Hid; rw [← hW]; exact (Below.refl _ _).alloc (Nat.le_refl _) _
  rw [hW] at C CV
  clear hW
  have hp := utf.enc_pos 40 hr
  have hs := TX_size (enc 40)
  have HT : Hid (TX (printL 40 false) = ⟨#[92]⟩ ++ TX (enc 40)) := TX_app [92] (enc 40)
  obtain ⟨X, hX⟩ : ∃ X, TX (enc 40) = X := ⟨_, rfl⟩
  rw [hX] at CV hs HT
  obtain ⟨K, hK⟩ : ∃ K, (enc 40).length = K := ⟨_, rfl⟩
  rw [hK] at C CV hs hp
  clear hX hK
  rw [HT.out]
  have s1 : ByteArray.size ⟨#[92]⟩ = 1 := rfl
  clear HT hr
  have n0 : (wrap64 ((((⟨#[46, 91, 40, 124, 41, 42, 43, 63, 123, 94, 36, 92]⟩ : ByteArray)[0]'(by decide)).toNat : Int)) == 40) = false := by decide +kernel
  have n1 : (wrap64 ((((⟨#[46, 91, 40, 124, 41, 42, 43, 63, 123, 94, 36, 92]⟩ : ByteArray)[1]'(by decide)).toNat : Int)) == 40) = false := by decide +kernel
  have n2 : (wrap64 ((((⟨#[46, 91, 40, 124, 41, 42, 43, 63, 123, 94, 36, 92]⟩ : ByteArray)[2]'(by decide)).toNat : Int)) == 40) = true := by decide +kernel
  go_enter Tryz.func24, Tryz.ntmps24
  go_wp2_with fail
  refine C.mono ?_
  rintro e w1 ⟨rfl, rfl⟩
  clear C
  go_wp2_with fail
  refine wp_loop_rounds 13 ?_
  rw [rounds_succ]
  go_wp2
  rw [rounds_succ]
  go_wp2
  rw [rounds_succ]
  go_wp2
  go_ret
  exact ⟨rfl, HB.out⟩
set_option maxHeartbeats 4000000 in
set_option maxRecDepth 100000 in
theorem rpr_mark_false_124 (w : World) : Calls Tryz.prog 24 #[.int .i64 124, .bool false] w fun e w' => e = .returned (.string (TX (printL 124 false))) ∧ Below w.heap.size w w' := by
  have hr : len 124 ≠ 0 := by decide
  have C := utf.renc_yes 124 w hr
  have CV := enc_text 124 w
  obtain ⟨W, hW⟩ : ∃ W, w.alloc (utf.encBlock 124) = W := ⟨_, rfl⟩
  have HB : Hid (Below w.heap.size w W) := by unfold Hid; rw [← hW]; exact (Below.refl _ _).alloc (Nat.le_refl _) _
  rw [hW] at C CV
  clear hW
  have hp := utf.enc_pos 124 hr
  have hs := TX_size (enc 124)
  have HT : Hid (TX (printL 124 false) = ⟨#[92]⟩ ++ TX (enc 124)) := TX_app [92] (enc 124)
  obtain ⟨X, hX⟩ : ∃ X, TX (enc 124) = X := ⟨_, rfl⟩
  rw [hX] at CV hs HT
  obtain ⟨K, hK⟩ : ∃ K, (enc 124).length = K := ⟨_, rfl⟩
  rw [hK] at C CV hs hp
  clear hX hK
  rw [HT.out]
  have s1 : ByteArray.size ⟨#[92]⟩ = 1 := rfl
  clear HT hr
  have n0 : (wrap64 ((((⟨#[46, 91, 40, 124, 41, 42, 43, 63, 123, 94, 36, 92]⟩ : ByteArray)[0]'(by decide)).toNat : Int)) == 124) = false := by decide +kernel
  have n1 : (wrap64 ((((⟨#[46, 91, 40, 124, 41, 42, 43, 63, 123, 94, 36, 92]⟩ : ByteArray)[1]'(by decide)).toNat : Int)) == 124) = false := by decide +kernel
  have n2 : (wrap64 ((((⟨#[46, 91, 40, 124, 41, 42, 43, 63, 123, 94, 36, 92]⟩ : ByteArray)[2]'(by decide)).toNat : Int)) == 124) = false := by decide +kernel
  have n3 : (wrap64 ((((⟨#[46, 91, 40, 124, 41, 42, 43, 63, 123, 94, 36, 92]⟩ : ByteArray)[3]'(by decide)).toNat : Int)) == 124) = true := by decide +kernel
  go_enter Tryz.func24, Tryz.ntmps24
  go_wp2_with fail
  refine C.mono ?_
  rintro e w1 ⟨rfl, rfl⟩
  clear C
  go_wp2_with fail
  refine wp_loop_rounds 13 ?_
  rw [rounds_succ]
  go_wp2
  rw [rounds_succ]
  go_wp2
  rw [rounds_succ]
  go_wp2
  rw [rounds_succ]
  go_wp2
  go_ret
  exact ⟨rfl, HB.out⟩
set_option maxHeartbeats 4000000 in
set_option maxRecDepth 100000 in
theorem rpr_mark_false_41 (w : World) : Calls Tryz.prog 24 #[.int .i64 41, .bool false] w fun e w' => e = .returned (.string (TX (printL 41 false))) ∧ Below w.heap.size w w' := by
  have hr : len 41 ≠ 0 := by decide
  have C := utf.renc_yes 41 w hr
  have CV := enc_text 41 w
  obtain ⟨W, hW⟩ : ∃ W, w.alloc (utf.encBlock 41) = W := ⟨_, rfl⟩
  have HB : Hid (Below w.heap.size w W) := by unfold Hid; rw [← hW]; exact (Below.refl _ _).alloc (Nat.le_refl _) _
  rw [hW] at C CV
  clear hW
  have hp := utf.enc_pos 41 hr
  have hs := TX_size (enc 41)
  have HT : Hid (TX (printL 41 false) = ⟨#[92]⟩ ++ TX (enc 41)) := TX_app [92] (enc 41)
  obtain ⟨X, hX⟩ : ∃ X, TX (enc 41) = X := ⟨_, rfl⟩
  rw [hX] at CV hs HT
  obtain ⟨K, hK⟩ : ∃ K, (enc 41).length = K := ⟨_, rfl⟩
  rw [hK] at C CV hs hp
  clear hX hK
  rw [HT.out]
  have s1 : ByteArray.size ⟨#[92]⟩ = 1 := rfl
  clear HT hr
  have n0 : (wrap64 ((((⟨#[46, 91, 40, 124, 41, 42, 43, 63, 123, 94, 36, 92]⟩ : ByteArray)[0]'(by decide)).toNat : Int)) == 41) = false := by decide +kernel
  have n1 : (wrap64 ((((⟨#[46, 91, 40, 124, 41, 42, 43, 63, 123, 94, 36, 92]⟩ : ByteArray)[1]'(by decide)).toNat : Int)) == 41) = false := by decide +kernel
  have n2 : (wrap64 ((((⟨#[46, 91, 40, 124, 41, 42, 43, 63, 123, 94, 36, 92]⟩ : ByteArray)[2]'(by decide)).toNat : Int)) == 41) = false := by decide +kernel
  have n3 : (wrap64 ((((⟨#[46, 91, 40, 124, 41, 42, 43, 63, 123, 94, 36, 92]⟩ : ByteArray)[3]'(by decide)).toNat : Int)) == 41) = false := by decide +kernel
  have n4 : (wrap64 ((((⟨#[46, 91, 40, 124, 41, 42, 43, 63, 123, 94, 36, 92]⟩ : ByteArray)[4]'(by decide)).toNat : Int)) == 41) = true := by decide +kernel
  go_enter Tryz.func24, Tryz.ntmps24
  go_wp2_with fail
  refine C.mono ?_
  rintro e w1 ⟨rfl, rfl⟩
  clear C
  go_wp2_with fail
  refine wp_loop_rounds 13 ?_
  rw [rounds_succ]
  go_wp2
  rw [rounds_succ]
  go_wp2
  rw [rounds_succ]
  go_wp2
  rw [rounds_succ]
  go_wp2
  rw [rounds_succ]
  go_wp2
  go_ret
  exact ⟨rfl, HB.out⟩
set_option maxHeartbeats 4000000 in
set_option maxRecDepth 100000 in
theorem rpr_mark_false_42 (w : World) : Calls Tryz.prog 24 #[.int .i64 42, .bool false] w fun e w' => e = .returned (.string (TX (printL 42 false))) ∧ Below w.heap.size w w' := by
  have hr : len 42 ≠ 0 := by decide
  have C := utf.renc_yes 42 w hr
  have CV := enc_text 42 w
  obtain ⟨W, hW⟩ : ∃ W, w.alloc (utf.encBlock 42) = W := ⟨_, rfl⟩
  have HB : Hid (Below w.heap.size w W) := by unfold Hid; rw [← hW]; exact (Below.refl _ _).alloc (Nat.le_refl _) _
  rw [hW] at C CV
  clear hW
  have hp := utf.enc_pos 42 hr
  have hs := TX_size (enc 42)
  have HT : Hid (TX (printL 42 false) = ⟨#[92]⟩ ++ TX (enc 42)) := TX_app [92] (enc 42)
  obtain ⟨X, hX⟩ : ∃ X, TX (enc 42) = X := ⟨_, rfl⟩
  rw [hX] at CV hs HT
  obtain ⟨K, hK⟩ : ∃ K, (enc 42).length = K := ⟨_, rfl⟩
  rw [hK] at C CV hs hp
  clear hX hK
  rw [HT.out]
  have s1 : ByteArray.size ⟨#[92]⟩ = 1 := rfl
  clear HT hr
  have n0 : (wrap64 ((((⟨#[46, 91, 40, 124, 41, 42, 43, 63, 123, 94, 36, 92]⟩ : ByteArray)[0]'(by decide)).toNat : Int)) == 42) = false := by decide +kernel
  have n1 : (wrap64 ((((⟨#[46, 91, 40, 124, 41, 42, 43, 63, 123, 94, 36, 92]⟩ : ByteArray)[1]'(by decide)).toNat : Int)) == 42) = false := by decide +kernel
  have n2 : (wrap64 ((((⟨#[46, 91, 40, 124, 41, 42, 43, 63, 123, 94, 36, 92]⟩ : ByteArray)[2]'(by decide)).toNat : Int)) == 42) = false := by decide +kernel
  have n3 : (wrap64 ((((⟨#[46, 91, 40, 124, 41, 42, 43, 63, 123, 94, 36, 92]⟩ : ByteArray)[3]'(by decide)).toNat : Int)) == 42) = false := by decide +kernel
  have n4 : (wrap64 ((((⟨#[46, 91, 40, 124, 41, 42, 43, 63, 123, 94, 36, 92]⟩ : ByteArray)[4]'(by decide)).toNat : Int)) == 42) = false := by decide +kernel
  have n5 : (wrap64 ((((⟨#[46, 91, 40, 124, 41, 42, 43, 63, 123, 94, 36, 92]⟩ : ByteArray)[5]'(by decide)).toNat : Int)) == 42) = true := by decide +kernel
  go_enter Tryz.func24, Tryz.ntmps24
  go_wp2_with fail
  refine C.mono ?_
  rintro e w1 ⟨rfl, rfl⟩
  clear C
  go_wp2_with fail
  refine wp_loop_rounds 13 ?_
  rw [rounds_succ]
  go_wp2
  rw [rounds_succ]
  go_wp2
  rw [rounds_succ]
  go_wp2
  rw [rounds_succ]
  go_wp2
  rw [rounds_succ]
  go_wp2
  rw [rounds_succ]
  go_wp2
  go_ret
  exact ⟨rfl, HB.out⟩
set_option maxHeartbeats 4000000 in
set_option maxRecDepth 100000 in
theorem rpr_mark_false_43 (w : World) : Calls Tryz.prog 24 #[.int .i64 43, .bool false] w fun e w' => e = .returned (.string (TX (printL 43 false))) ∧ Below w.heap.size w w' := by
  have hr : len 43 ≠ 0 := by decide
  have C := utf.renc_yes 43 w hr
  have CV := enc_text 43 w
  obtain ⟨W, hW⟩ : ∃ W, w.alloc (utf.encBlock 43) = W := ⟨_, rfl⟩
  have HB : Hid (Below w.heap.size w W) := by unfold Hid; rw [← hW]; exact (Below.refl _ _).alloc (Nat.le_refl _) _
  rw [hW] at C CV
  clear hW
  have hp := utf.enc_pos 43 hr
  have hs := TX_size (enc 43)
  have HT : Hid (TX (printL 43 false) = ⟨#[92]⟩ ++ TX (enc 43)) := TX_app [92] (enc 43)
  obtain ⟨X, hX⟩ : ∃ X, TX (enc 43) = X := ⟨_, rfl⟩
  rw [hX] at CV hs HT
  obtain ⟨K, hK⟩ : ∃ K, (enc 43).length = K := ⟨_, rfl⟩
  rw [hK] at C CV hs hp
  clear hX hK
  rw [HT.out]
  have s1 : ByteArray.size ⟨#[92]⟩ = 1 := rfl
  clear HT hr
  have n0 : (wrap64 ((((⟨#[46, 91, 40, 124, 41, 42, 43, 63, 123, 94, 36, 92]⟩ : ByteArray)[0]'(by decide)).toNat : Int)) == 43) = false := by decide +kernel
  have n1 : (wrap64 ((((⟨#[46, 91, 40, 124, 41, 42, 43, 63, 123, 94, 36, 92]⟩ : ByteArray)[1]'(by decide)).toNat : Int)) == 43) = false := by decide +kernel
  have n2 : (wrap64 ((((⟨#[46, 91, 40, 124, 41, 42, 43, 63, 123, 94, 36, 92]⟩ : ByteArray)[2]'(by decide)).toNat : Int)) == 43) = false := by decide +kernel
  have n3 : (wrap64 ((((⟨#[46, 91, 40, 124, 41, 42, 43, 63, 123, 94, 36, 92]⟩ : ByteArray)[3]'(by decide)).toNat : Int)) == 43) = false := by decide +kernel
  have n4 : (wrap64 ((((⟨#[46, 91, 40, 124, 41, 42, 43, 63, 123, 94, 36, 92]⟩ : ByteArray)[4]'(by decide)).toNat : Int)) == 43) = false := by decide +kernel
  have n5 : (wrap64 ((((⟨#[46, 91, 40, 124, 41, 42, 43, 63, 123, 94, 36, 92]⟩ : ByteArray)[5]'(by decide)).toNat : Int)) == 43) = false := by decide +kernel
  have n6 : (wrap64 ((((⟨#[46, 91, 40, 124, 41, 42, 43, 63, 123, 94, 36, 92]⟩ : ByteArray)[6]'(by decide)).toNat : Int)) == 43) = true := by decide +kernel
  go_enter Tryz.func24, Tryz.ntmps24
  go_wp2_with fail
  refine C.mono ?_
  rintro e w1 ⟨rfl, rfl⟩
  clear C
  go_wp2_with fail
  refine wp_loop_rounds 13 ?_
  rw [rounds_succ]
  go_wp2
  rw [rounds_succ]
  go_wp2
  rw [rounds_succ]
  go_wp2
  rw [rounds_succ]
  go_wp2
  rw [rounds_succ]
  go_wp2
  rw [rounds_succ]
  go_wp2
  rw [rounds_succ]
  go_wp2
  go_ret
  exact ⟨rfl, HB.out⟩
set_option maxHeartbeats 4000000 in
set_option maxRecDepth 100000 in
theorem rpr_mark_false_63 (w : World) : Calls Tryz.prog 24 #[.int .i64 63, .bool false] w fun e w' => e = .returned (.string (TX (printL 63 false))) ∧ Below w.heap.size w w' := by
  have hr : len 63 ≠ 0 := by decide
  have C := utf.renc_yes 63 w hr
  have CV := enc_text 63 w
  obtain ⟨W, hW⟩ : ∃ W, w.alloc (utf.encBlock 63) = W := ⟨_, rfl⟩
  have HB : Hid (Below w.heap.size w W) := by unfold Hid; rw [← hW]; exact (Below.refl _ _).alloc (Nat.le_refl _) _
  rw [hW] at C CV
  clear hW
  have hp := utf.enc_pos 63 hr
  have hs := TX_size (enc 63)
  have HT : Hid (TX (printL 63 false) = ⟨#[92]⟩ ++ TX (enc 63)) := TX_app [92] (enc 63)
  obtain ⟨X, hX⟩ : ∃ X, TX (enc 63) = X := ⟨_, rfl⟩
  rw [hX] at CV hs HT
  obtain ⟨K, hK⟩ : ∃ K, (enc 63).length = K := ⟨_, rfl⟩
  rw [hK] at C CV hs hp
  clear hX hK
  rw [HT.out]
  have s1 : ByteArray.size ⟨#[92]⟩ = 1 := rfl
  clear HT hr
  have n0 : (wrap64 ((((⟨#[46, 91, 40, 124, 41, 42, 43, 63, 123, 94, 36, 92]⟩ : ByteArray)[0]'(by decide)).toNat : Int)) == 63) = false := by decide +kernel
  have n1 : (wrap64 ((((⟨#[46, 91, 40, 124, 41, 42, 43, 63, 123, 94, 36, 92]⟩ : ByteArray)[1]'(by decide)).toNat : Int)) == 63) = false := by decide +kernel
  have n2 : (wrap64 ((((⟨#[46, 91, 40, 124, 41, 42, 43, 63, 123, 94, 36, 92]⟩ : ByteArray)[2]'(by decide)).toNat : Int)) == 63) = false := by decide +kernel
  have n3 : (wrap64 ((((⟨#[46, 91, 40, 124, 41, 42, 43, 63, 123, 94, 36, 92]⟩ : ByteArray)[3]'(by decide)).toNat : Int)) == 63) = false := by decide +kernel
  have n4 : (wrap64 ((((⟨#[46, 91, 40, 124, 41, 42, 43, 63, 123, 94, 36, 92]⟩ : ByteArray)[4]'(by decide)).toNat : Int)) == 63) = false := by decide +kernel
  have n5 : (wrap64 ((((⟨#[46, 91, 40, 124, 41, 42, 43, 63, 123, 94, 36, 92]⟩ : ByteArray)[5]'(by decide)).toNat : Int)) == 63) = false := by decide +kernel
  have n6 : (wrap64 ((((⟨#[46, 91, 40, 124, 41, 42, 43, 63, 123, 94, 36, 92]⟩ : ByteArray)[6]'(by decide)).toNat : Int)) == 63) = false := by decide +kernel
  have n7 : (wrap64 ((((⟨#[46, 91, 40, 124, 41, 42, 43, 63, 123, 94, 36, 92]⟩ : ByteArray)[7]'(by decide)).toNat : Int)) == 63) = true := by decide +kernel
  go_enter Tryz.func24, Tryz.ntmps24
  go_wp2_with fail
  refine C.mono ?_
  rintro e w1 ⟨rfl, rfl⟩
  clear C
  go_wp2_with fail
  refine wp_loop_rounds 13 ?_
  rw [rounds_succ]
  go_wp2
  rw [rounds_succ]
  go_wp2
  rw [rounds_succ]
  go_wp2
  rw [rounds_succ]
  go_wp2
  rw [rounds_succ]
  go_wp2
  rw [rounds_succ]
  go_wp2
  rw [rounds_succ]
  go_wp2
  rw [rounds_succ]
  go_wp2
  go_ret
  exact ⟨rfl, HB.out⟩
set_option maxHeartbeats 4000000 in
set_option maxRecDepth 100000 in
theorem rpr_mark_false_123 (w : World) : Calls Tryz.prog 24 #[.int .i64 123, .bool false] w fun e w' => e = .returned (.string (TX (printL 123 false))) ∧ Below w.heap.size w w' := by
  have hr : len 123 ≠ 0 := by decide
  have C := utf.renc_yes 123 w hr
  have CV := enc_text 123 w
  obtain ⟨W, hW⟩ : ∃ W, w.alloc (utf.encBlock 123) = W := ⟨_, rfl⟩
  have HB : Hid (Below w.heap.size w W) := by unfold Hid; rw [← hW]; exact (Below.refl _ _).alloc (Nat.le_refl _) _
  rw [hW] at C CV
  clear hW
  have hp := utf.enc_pos 123 hr
  have hs := TX_size (enc 123)
  have HT : Hid (TX (printL 123 false) = ⟨#[92]⟩ ++ TX (enc 123)) := TX_app [92] (enc 123)
  obtain ⟨X, hX⟩ : ∃ X, TX (enc 123) = X := ⟨_, rfl⟩
  rw [hX] at CV hs HT
  obtain ⟨K, hK⟩ : ∃ K, (enc 123).length = K := ⟨_, rfl⟩
  rw [hK] at C CV hs hp
  clear hX hK
  rw [HT.out]
  have s1 : ByteArray.size ⟨#[92]⟩ = 1 := rfl
  clear HT hr
  have n0 : (wrap64 ((((⟨#[46, 91, 40, 124, 41, 42, 43, 63, 123, 94, 36, 92]⟩ : ByteArray)[0]'(by decide)).toNat : Int)) == 123) = false := by decide +kernel
  have n1 : (wrap64 ((((⟨#[46, 91, 40, 124, 41, 42, 43, 63, 123, 94, 36, 92]⟩ : ByteArray)[1]'(by decide)).toNat : Int)) == 123) = false := by decide +kernel
  have n2 : (wrap64 ((((⟨#[46, 91, 40, 124, 41, 42, 43, 63, 123, 94, 36, 92]⟩ : ByteArray)[2]'(by decide)).toNat : Int)) == 123) = false := by decide +kernel
  have n3 : (wrap64 ((((⟨#[46, 91, 40, 124, 41, 42, 43, 63, 123, 94, 36, 92]⟩ : ByteArray)[3]'(by decide)).toNat : Int)) == 123) = false := by decide +kernel
  have n4 : (wrap64 ((((⟨#[46, 91, 40, 124, 41, 42, 43, 63, 123, 94, 36, 92]⟩ : ByteArray)[4]'(by decide)).toNat : Int)) == 123) = false := by decide +kernel
  have n5 : (wrap64 ((((⟨#[46, 91, 40, 124, 41, 42, 43, 63, 123, 94, 36, 92]⟩ : ByteArray)[5]'(by decide)).toNat : Int)) == 123) = false := by decide +kernel
  have n6 : (wrap64 ((((⟨#[46, 91, 40, 124, 41, 42, 43, 63, 123, 94, 36, 92]⟩ : ByteArray)[6]'(by decide)).toNat : Int)) == 123) = false := by decide +kernel
  have n7 : (wrap64 ((((⟨#[46, 91, 40, 124, 41, 42, 43, 63, 123, 94, 36, 92]⟩ : ByteArray)[7]'(by decide)).toNat : Int)) == 123) = false := by decide +kernel
  have n8 : (wrap64 ((((⟨#[46, 91, 40, 124, 41, 42, 43, 63, 123, 94, 36, 92]⟩ : ByteArray)[8]'(by decide)).toNat : Int)) == 123) = true := by decide +kernel
  go_enter Tryz.func24, Tryz.ntmps24
  go_wp2_with fail
  refine C.mono ?_
  rintro e w1 ⟨rfl, rfl⟩
  clear C
  go_wp2_with fail
  refine wp_loop_rounds 13 ?_
  rw [rounds_succ]
  go_wp2
  rw [rounds_succ]
  go_wp2
  rw [rounds_succ]
  go_wp2
  rw [rounds_succ]
  go_wp2
  rw [rounds_succ]
  go_wp2
  rw [rounds_succ]
  go_wp2
  rw [rounds_succ]
  go_wp2
  rw [rounds_succ]
  go_wp2
  rw [rounds_succ]
  go_wp2
  go_ret
  exact ⟨rfl, HB.out⟩
set_option maxHeartbeats 4000000 in
set_option maxRecDepth 100000 in
theorem rpr_mark_false_94 (w : World) : Calls Tryz.prog 24 #[.int .i64 94, .bool false] w fun e w' => e = .returned (.string (TX (printL 94 false))) ∧ Below w.heap.size w w' := by
  have hr : len 94 ≠ 0 := by decide
  have C := utf.renc_yes 94 w hr
  have CV := enc_text 94 w
  obtain ⟨W, hW⟩ : ∃ W, w.alloc (utf.encBlock 94) = W := ⟨_, rfl⟩
  have HB : Hid (Below w.heap.size w W) := by unfold Hid; rw [← hW]; exact (Below.refl _ _).alloc (Nat.le_refl _) _
  rw [hW] at C CV
  clear hW
  have hp := utf.enc_pos 94 hr
  have hs := TX_size (enc 94)
  have HT : Hid (TX (printL 94 false) = ⟨#[92]⟩ ++ TX (enc 94)) := TX_app [92] (enc 94)
  obtain ⟨X, hX⟩ : ∃ X, TX (enc 94) = X := ⟨_, rfl⟩
  rw [hX] at CV hs HT
  obtain ⟨K, hK⟩ : ∃ K, (enc 94).length = K := ⟨_, rfl⟩
  rw [hK] at C CV hs hp
  clear hX hK
  rw [HT.out]
  have s1 : ByteArray.size ⟨#[92]⟩ = 1 := rfl
  clear HT hr
  have n0 : (wrap64 ((((⟨#[46, 91, 40, 124, 41, 42, 43, 63, 123, 94, 36, 92]⟩ : ByteArray)[0]'(by decide)).toNat : Int)) == 94) = false := by decide +kernel
  have n1 : (wrap64 ((((⟨#[46, 91, 40, 124, 41, 42, 43, 63, 123, 94, 36, 92]⟩ : ByteArray)[1]'(by decide)).toNat : Int)) == 94) = false := by decide +kernel
  have n2 : (wrap64 ((((⟨#[46, 91, 40, 124, 41, 42, 43, 63, 123, 94, 36, 92]⟩ : ByteArray)[2]'(by decide)).toNat : Int)) == 94) = false := by decide +kernel
  have n3 : (wrap64 ((((⟨#[46, 91, 40, 124, 41, 42, 43, 63, 123, 94, 36, 92]⟩ : ByteArray)[3]'(by decide)).toNat : Int)) == 94) = false := by decide +kernel
  have n4 : (wrap64 ((((⟨#[46, 91, 40, 124, 41, 42, 43, 63, 123, 94, 36, 92]⟩ : ByteArray)[4]'(by decide)).toNat : Int)) == 94) = false := by decide +kernel
  have n5 : (wrap64 ((((⟨#[46, 91, 40, 124, 41, 42, 43, 63, 123, 94, 36, 92]⟩ : ByteArray)[5]'(by decide)).toNat : Int)) == 94) = false := by decide +kernel
  have n6 : (wrap64 ((((⟨#[46, 91, 40, 124, 41, 42, 43, 63, 123, 94, 36, 92]⟩ : ByteArray)[6]'(by decide)).toNat : Int)) == 94) = false := by decide +kernel
  have n7 : (wrap64 ((((⟨#[46, 91, 40, 124, 41, 42, 43, 63, 123, 94, 36, 92]⟩ : ByteArray)[7]'(by decide)).toNat : Int)) == 94) = false := by decide +kernel
  have n8 : (wrap64 ((((⟨#[46, 91, 40, 124, 41, 42, 43, 63, 123, 94, 36, 92]⟩ : ByteArray)[8]'(by decide)).toNat : Int)) == 94) = false := by decide +kernel
  have n9 : (wrap64 ((((⟨#[46, 91, 40, 124, 41, 42, 43, 63, 123, 94, 36, 92]⟩ : ByteArray)[9]'(by decide)).toNat : Int)) == 94) = true := by decide +kernel
  go_enter Tryz.func24, Tryz.ntmps24
  go_wp2_with fail
  refine C.mono ?_
  rintro e w1 ⟨rfl, rfl⟩
  clear C
  go_wp2_with fail
  refine wp_loop_rounds 13 ?_
  rw [rounds_succ]
  go_wp2
  rw [rounds_succ]
  go_wp2
  rw [rounds_succ]
  go_wp2
  rw [rounds_succ]
  go_wp2
  rw [rounds_succ]
  go_wp2
  rw [rounds_succ]
  go_wp2
  rw [rounds_succ]
  go_wp2
  rw [rounds_succ]
  go_wp2
  rw [rounds_succ]
  go_wp2
  rw [rounds_succ]
  go_wp2
  go_ret
  exact ⟨rfl, HB.out⟩
set_option maxHeartbeats 4000000 in
set_option maxRecDepth 100000 in
theorem rpr_mark_false_36 (w : World) : Calls Tryz.prog 24 #[.int .i64 36, .bool false] w fun e w' => e = .returned (.string (TX (printL 36 false))) ∧ Below w.heap.size w w' := by
  have hr : len 36 ≠ 0 := by decide
  have C := utf.renc_yes 36 w hr
  have CV := enc_text 36 w
  obtain ⟨W, hW⟩ : ∃ W, w.alloc (utf.encBlock 36) = W := ⟨_, rfl⟩
  have HB : Hid (Below w.heap.size w W) := by unfold Hid; rw [← hW]; exact (Below.refl _ _).alloc (Nat.le_refl _) _
  rw [hW] at C CV
  clear hW
  have hp := utf.enc_pos 36 hr
  have hs := TX_size (enc 36)
  have HT : Hid (TX (printL 36 false) = ⟨#[92]⟩ ++ TX (enc 36)) := TX_app [92] (enc 36)
  obtain ⟨X, hX⟩ : ∃ X, TX (enc 36) = X := ⟨_, rfl⟩
  rw [hX] at CV hs HT
  obtain ⟨K, hK⟩ : ∃ K, (enc 36).length = K := ⟨_, rfl⟩
  rw [hK] at C CV hs hp
  clear hX hK
  rw [HT.out]
  have s1 : ByteArray.size ⟨#[92]⟩ = 1 := rfl
  clear HT hr
  have n0 : (wrap64 ((((⟨#[46, 91, 40, 124, 41, 42, 43, 63, 123, 94, 36, 92]⟩ : ByteArray)[0]'(by decide)).toNat : Int)) == 36) = false := by decide +kernel
  have n1 : (wrap64 ((((⟨#[46, 91, 40, 124, 41, 42, 43, 63, 123, 94, 36, 92]⟩ : ByteArray)[1]'(by decide)).toNat : Int)) == 36) = false := by decide +kernel
  have n2 : (wrap64 ((((⟨#[46, 91, 40, 124, 41, 42, 43, 63, 123, 94, 36, 92]⟩ : ByteArray)[2]'(by decide)).toNat : Int)) == 36) = false := by decide +kernel
  have n3 : (wrap64 ((((⟨#[46, 91, 40, 124, 41, 42, 43, 63, 123, 94, 36, 92]⟩ : ByteArray)[3]'(by decide)).toNat : Int)) == 36) = false := by decide +kernel
  have n4 : (wrap64 ((((⟨#[46, 91, 40, 124, 41, 42, 43, 63, 123, 94, 36, 92]⟩ : ByteArray)[4]'(by decide)).toNat : Int)) == 36) = false := by decide +kernel
  have n5 : (wrap64 ((((⟨#[46, 91, 40, 124, 41, 42, 43, 63, 123, 94, 36, 92]⟩ : ByteArray)[5]'(by decide)).toNat : Int)) == 36) = false := by decide +kernel
  have n6 : (wrap64 ((((⟨#[46, 91, 40, 124, 41, 42, 43, 63, 123, 94, 36, 92]⟩ : ByteArray)[6]'(by decide)).toNat : Int)) == 36) = false := by decide +kernel
  have n7 : (wrap64 ((((⟨#[46, 91, 40, 124, 41, 42, 43, 63, 123, 94, 36, 92]⟩ : ByteArray)[7]'(by decide)).toNat : Int)) == 36) = false := by decide +kernel
  have n8 : (wrap64 ((((⟨#[46, 91, 40, 124, 41, 42, 43, 63, 123, 94, 36, 92]⟩ : ByteArray)[8]'(by decide)).toNat : Int)) == 36) = false := by decide +kernel
  have n9 : (wrap64 ((((⟨#[46, 91, 40, 124, 41, 42, 43, 63, 123, 94, 36, 92]⟩ : ByteArray)[9]'(by decide)).toNat : Int)) == 36) = false := by decide +kernel
  have n10 : (wrap64 ((((⟨#[46, 91, 40, 124, 41, 42, 43, 63, 123, 94, 36, 92]⟩ : ByteArray)[10]'(by decide)).toNat : Int)) == 36) = true := by decide +kernel
  go_enter Tryz.func24, Tryz.ntmps24
  go_wp2_with fail
  refine C.mono ?_
  rintro e w1 ⟨rfl, rfl⟩
  clear C
  go_wp2_with fail
  refine wp_loop_rounds 13 ?_
  rw [rounds_succ]
  go_wp2
  rw [rounds_succ]
  go_wp2
  rw [rounds_succ]
  go_wp2
  rw [rounds_succ]
  go_wp2
  rw [rounds_succ]
  go_wp2
  rw [rounds_succ]
  go_wp2
  rw [rounds_succ]
  go_wp2
  rw [rounds_succ]
  go_wp2
  rw [rounds_succ]
  go_wp2
  rw [rounds_succ]
  go_wp2
  rw [rounds_succ]
  go_wp2
  go_ret
  exact ⟨rfl, HB.out⟩
set_option maxHeartbeats 4000000 in
set_option maxRecDepth 100000 in
theorem rpr_mark_false_92 (w : World) : Calls Tryz.prog 24 #[.int .i64 92, .bool false] w fun e w' => e = .returned (.string (TX (printL 92 false))) ∧ Below w.heap.size w w' := by
  have hr : len 92 ≠ 0 := by decide
  have C := utf.renc_yes 92 w hr
  have CV := enc_text 92 w
  obtain ⟨W, hW⟩ : ∃ W, w.alloc (utf.encBlock 92) = W := ⟨_, rfl⟩
  have HB : Hid (Below w.heap.size w W) := by unfold Hid; rw [← hW]; exact (Below.refl _ _).alloc (Nat.le_refl _) _
  rw [hW] at C CV
  clear hW
  have hp := utf.enc_pos 92 hr
  have hs := TX_size (enc 92)
  have HT : Hid (TX (printL 92 false) = ⟨#[92]⟩ ++ TX (enc 92)) := TX_app [92] (enc 92)
  obtain ⟨X, hX⟩ : ∃ X, TX (enc 92) = X := ⟨_, rfl⟩
  rw [hX] at CV hs HT
  obtain ⟨K, hK⟩ : ∃ K, (enc 92).length = K := ⟨_, rfl⟩
  rw [hK] at C CV hs hp
  clear hX hK
  rw [HT.out]
  have s1 : ByteArray.size ⟨#[92]⟩ = 1 := rfl
  clear HT hr
  have n0 : (wrap64 ((((⟨#[46, 91, 40, 124, 41, 42, 43, 63, 123, 94, 36, 92]⟩ : ByteArray)[0]'(by decide)).toNat : Int)) == 92) = false := by decide +kernel
  have n1 : (wrap64 ((((⟨#[46, 91, 40, 124, 41, 42, 43, 63, 123, 94, 36, 92]⟩ : ByteArray)[1]'(by decide)).toNat : Int)) == 92) = false := by decide +kernel
  have n2 : (wrap64 ((((⟨#[46, 91, 40, 124, 41, 42, 43, 63, 123, 94, 36, 92]⟩ : ByteArray)[2]'(by decide)).toNat : Int)) == 92) = false := by decide +kernel
  have n3 : (wrap64 ((((⟨#[46, 91, 40, 124, 41, 42, 43, 63, 123, 94, 36, 92]⟩ : ByteArray)[3]'(by decide)).toNat : Int)) == 92) = false := by decide +kernel
  have n4 : (wrap64 ((((⟨#[46, 91, 40, 124, 41, 42, 43, 63, 123, 94, 36, 92]⟩ : ByteArray)[4]'(by decide)).toNat : Int)) == 92) = false := by decide +kernel
  have n5 : (wrap64 ((((⟨#[46, 91, 40, 124, 41, 42, 43, 63, 123, 94, 36, 92]⟩ : ByteArray)[5]'(by decide)).toNat : Int)) == 92) = false := by decide +kernel
  have n6 : (wrap64 ((((⟨#[46, 91, 40, 124, 41, 42, 43, 63, 123, 94, 36, 92]⟩ : ByteArray)[6]'(by decide)).toNat : Int)) == 92) = false := by decide +kernel
  have n7 : (wrap64 ((((⟨#[46, 91, 40, 124, 41, 42, 43, 63, 123, 94, 36, 92]⟩ : ByteArray)[7]'(by decide)).toNat : Int)) == 92) = false := by decide +kernel
  have n8 : (wrap64 ((((⟨#[46, 91, 40, 124, 41, 42, 43, 63, 123, 94, 36, 92]⟩ : ByteArray)[8]'(by decide)).toNat : Int)) == 92) = false := by decide +kernel
  have n9 : (wrap64 ((((⟨#[46, 91, 40, 124, 41, 42, 43, 63, 123, 94, 36, 92]⟩ : ByteArray)[9]'(by decide)).toNat : Int)) == 92) = false := by decide +kernel
  have n10 : (wrap64 ((((⟨#[46, 91, 40, 124, 41, 42, 43, 63, 123, 94, 36, 92]⟩ : ByteArray)[10]'(by decide)).toNat : Int)) == 92) = false := by decide +kernel
  have n11 : (wrap64 ((((⟨#[46, 91, 40, 124, 41, 42, 43, 63, 123, 94, 36, 92]⟩ : ByteArray)[11]'(by decide)).toNat : Int)) == 92) = true := by decide +kernel
  go_enter Tryz.func24, Tryz.ntmps24
  go_wp2_with fail
  refine C.mono ?_
  rintro e w1 ⟨rfl, rfl⟩
  clear C
  go_wp2_with fail
  refine wp_loop_rounds 13 ?_
  rw [rounds_succ]
  go_wp2
  rw [rounds_succ]
  go_wp2
  rw [rounds_succ]
  go_wp2
  rw [rounds_succ]
  go_wp2
  rw [rounds_succ]
  go_wp2
  rw [rounds_succ]
  go_wp2
  rw [rounds_succ]
  go_wp2
  rw [rounds_succ]
  go_wp2
  rw [rounds_succ]
  go_wp2
  rw [rounds_succ]
  go_wp2
  rw [rounds_succ]
  go_wp2
  rw [rounds_succ]
  go_wp2
  go_ret
  exact ⟨rfl, HB.out⟩
end Go.Proofs.YtbdediacfckpcaaGreatDoor.tok
end

section
/- The document's Print: the marks in a class. -/
set_option linter.unusedVariables false
set_option linter.unusedSimpArgs false
namespace Go.Proofs.YtbdediacfckpcaaGreatDoor.tok
open Go.RowKit
open utf (len enc)
open lin (BA Turns)

set_option maxHeartbeats 4000000 in
set_option maxRecDepth 100000 in
theorem rpr_mark_true_91 (w : World) : Calls Tryz.prog 24 #[.int .i64 91, .bool true] w fun e w' => e = .returned (.string (TX (printL 91 true))) ∧ Below w.heap.size w w' := by
  have hr : len 91 ≠ 0 := by decide
  have C := utf.renc_yes 91 w hr
  have CV := enc_text 91 w
  obtain ⟨W, hW⟩ : ∃ W, w.alloc (utf.encBlock 91) = W := ⟨_, rfl⟩
  have HB : Hid (Below w.heap.size w W) := by unfold Hid; rw [← hW]; exact (Below.refl _ _).alloc (Nat.le_refl _) _
  rw [hW] at C CV
  clear hW
  have hp := utf.enc_pos 91 hr
  have hs := TX_size (enc 91)
  have HT : Hid (TX (printL 91 true) = ⟨#[92]⟩ ++ TX (enc 91)) := TX_app [92] (enc 91)
  obtain ⟨X, hX⟩ : ∃ X, TX (enc 91) = X := ⟨_, rfl⟩
  rw [hX] at CV hs HT
  obtain ⟨K, hK⟩ : ∃ K, (enc 91).length = K := ⟨_, rfl⟩
  rw [hK] at C CV hs hp
  clear hX hK
  rw [HT.out]
  have s1 : ByteArray.size ⟨#[92]⟩ = 1 := rfl
  clear HT hr
  have n0 : (wrap64 ((((⟨#[91, 93, 94, 45, 38, 126, 92]⟩ : ByteArray)[0]'(by decide)).toNat : Int)) == 91) = true := by decide +kernel
  go_enter Tryz.func24, Tryz.ntmps24
  go_wp2_with fail
  refine C.mono ?_
  rintro e w1 ⟨rfl, rfl⟩
  clear C
  go_wp2_with fail
  refine wp_loop_rounds 8 ?_
  rw [rounds_succ]
  go_wp2
  go_ret
  exact ⟨rfl, HB.out⟩
set_option maxHeartbeats 4000000 in
set_option maxRecDepth 100000 in
theorem rpr_mark_true_93 (w : World) : Calls Tryz.prog 24 #[.int .i64 93, .bool true] w fun e w' => e = .returned (.string (TX (printL 93 true))) ∧ Below w.heap.size w w' := by
  have hr : len 93 ≠ 0 := by decide
  have C := utf.renc_yes 93 w hr
  have CV := enc_text 93 w
  obtain ⟨W, hW⟩ : ∃ W, w.alloc (utf.encBlock 93) = W := ⟨_, rfl⟩
  have HB : Hid (Below w.heap.size w W) := by unfold Hid; rw [← hW]; exact (Below.refl _ _).alloc (Nat.le_refl _) _
  rw [hW] at C CV
  clear hW
  have hp := utf.enc_pos 93 hr
  have hs := TX_size (enc 93)
  have HT : Hid (TX (printL 93 true) = ⟨#[92]⟩ ++ TX (enc 93)) := TX_app [92] (enc 93)
  obtain ⟨X, hX⟩ : ∃ X, TX (enc 93) = X := ⟨_, rfl⟩
  rw [hX] at CV hs HT
  obtain ⟨K, hK⟩ : ∃ K, (enc 93).length = K := ⟨_, rfl⟩
  rw [hK] at C CV hs hp
  clear hX hK
  rw [HT.out]
  have s1 : ByteArray.size ⟨#[92]⟩ = 1 := rfl
  clear HT hr
  have n0 : (wrap64 ((((⟨#[91, 93, 94, 45, 38, 126, 92]⟩ : ByteArray)[0]'(by decide)).toNat : Int)) == 93) = false := by decide +kernel
  have n1 : (wrap64 ((((⟨#[91, 93, 94, 45, 38, 126, 92]⟩ : ByteArray)[1]'(by decide)).toNat : Int)) == 93) = true := by decide +kernel
  go_enter Tryz.func24, Tryz.ntmps24
  go_wp2_with fail
  refine C.mono ?_
  rintro e w1 ⟨rfl, rfl⟩
  clear C
  go_wp2_with fail
  refine wp_loop_rounds 8 ?_
  rw [rounds_succ]
  go_wp2
  rw [rounds_succ]
  go_wp2
  go_ret
  exact ⟨rfl, HB.out⟩
set_option maxHeartbeats 4000000 in
set_option maxRecDepth 100000 in
theorem rpr_mark_true_94 (w : World) : Calls Tryz.prog 24 #[.int .i64 94, .bool true] w fun e w' => e = .returned (.string (TX (printL 94 true))) ∧ Below w.heap.size w w' := by
  have hr : len 94 ≠ 0 := by decide
  have C := utf.renc_yes 94 w hr
  have CV := enc_text 94 w
  obtain ⟨W, hW⟩ : ∃ W, w.alloc (utf.encBlock 94) = W := ⟨_, rfl⟩
  have HB : Hid (Below w.heap.size w W) := by unfold Hid; rw [← hW]; exact (Below.refl _ _).alloc (Nat.le_refl _) _
  rw [hW] at C CV
  clear hW
  have hp := utf.enc_pos 94 hr
  have hs := TX_size (enc 94)
  have HT : Hid (TX (printL 94 true) = ⟨#[92]⟩ ++ TX (enc 94)) := TX_app [92] (enc 94)
  obtain ⟨X, hX⟩ : ∃ X, TX (enc 94) = X := ⟨_, rfl⟩
  rw [hX] at CV hs HT
  obtain ⟨K, hK⟩ : ∃ K, (enc 94).length = K := ⟨_, rfl⟩
  rw [hK] at C CV hs hp
  clear hX hK
  rw [HT.out]
  have s1 : ByteArray.size ⟨#[92]⟩ = 1 := rfl
  clear HT hr
  have n0 : (wrap64 ((((⟨#[91, 93, 94, 45, 38, 126, 92]⟩ : ByteArray)[0]'(by decide)).toNat : Int)) == 94) = false := by decide +kernel
  have n1 : (wrap64 ((((⟨#[91, 93, 94, 45, 38, 126, 92]⟩ : ByteArray)[1]'(by decide)).toNat : Int)) == 94) = false := by decide +kernel
  have n2 : (wrap64 ((((⟨#[91, 93, 94, 45, 38, 126, 92]⟩ : ByteArray)[2]'(by decide)).toNat : Int)) == 94) = true := by decide +kernel
  go_enter Tryz.func24, Tryz.ntmps24
  go_wp2_with fail
  refine C.mono ?_
  rintro e w1 ⟨rfl, rfl⟩
  clear C
  go_wp2_with fail
  refine wp_loop_rounds 8 ?_
  rw [rounds_succ]
  go_wp2
  rw [rounds_succ]
  go_wp2
  rw [rounds_succ]
  go_wp2
  go_ret
  exact ⟨rfl, HB.out⟩
set_option maxHeartbeats 4000000 in
set_option maxRecDepth 100000 in
theorem rpr_mark_true_45 (w : World) : Calls Tryz.prog 24 #[.int .i64 45, .bool true] w fun e w' => e = .returned (.string (TX (printL 45 true))) ∧ Below w.heap.size w w' := by
  have hr : len 45 ≠ 0 := by decide
  have C := utf.renc_yes 45 w hr
  have CV := enc_text 45 w
  obtain ⟨W, hW⟩ : ∃ W, w.alloc (utf.encBlock 45) = W := ⟨_, rfl⟩
  have HB : Hid (Below w.heap.size w W) := by unfold Hid; rw [← hW]; exact (Below.refl _ _).alloc (Nat.le_refl _) _
  rw [hW] at C CV
  clear hW
  have hp := utf.enc_pos 45 hr
  have hs := TX_size (enc 45)
  have HT : Hid (TX (printL 45 true) = ⟨#[92]⟩ ++ TX (enc 45)) := TX_app [92] (enc 45)
  obtain ⟨X, hX⟩ : ∃ X, TX (enc 45) = X := ⟨_, rfl⟩
  rw [hX] at CV hs HT
  obtain ⟨K, hK⟩ : ∃ K, (enc 45).length = K := ⟨_, rfl⟩
  rw [hK] at C CV hs hp
  clear hX hK
  rw [HT.out]
  have s1 : ByteArray.size ⟨#[92]⟩ = 1 := rfl
  clear HT hr
  have n0 : (wrap64 ((((⟨#[91, 93, 94, 45, 38, 126, 92]⟩ : ByteArray)[0]'(by decide)).toNat : Int)) == 45) = false := by decide +kernel
  have n1 : (wrap64 ((((⟨#[91, 93, 94, 45, 38, 126, 92]⟩ : ByteArray)[1]'(by decide)).toNat : Int)) == 45) = false := by decide +kernel
  have n2 : (wrap64 ((((⟨#[91, 93, 94, 45, 38, 126, 92]⟩ : ByteArray)[2]'(by decide)).toNat : Int)) == 45) = false := by decide +kernel
  have n3 : (wrap64 ((((⟨#[91, 93, 94, 45, 38, 126, 92]⟩ : ByteArray)[3]'(by decide)).toNat : Int)) == 45) = true := by decide +kernel
  go_enter Tryz.func24, Tryz.ntmps24
  go_wp2_with fail
  refine C.mono ?_
  rintro e w1 ⟨rfl, rfl⟩
  clear C
  go_wp2_with fail
  refine wp_loop_rounds 8 ?_
  rw [rounds_succ]
  go_wp2
  rw [rounds_succ]
  go_wp2
  rw [rounds_succ]
  go_wp2
  rw [rounds_succ]
  go_wp2
  go_ret
  exact ⟨rfl, HB.out⟩
set_option maxHeartbeats 4000000 in
set_option maxRecDepth 100000 in
theorem rpr_mark_true_38 (w : World) : Calls Tryz.prog 24 #[.int .i64 38, .bool true] w fun e w' => e = .returned (.string (TX (printL 38 true))) ∧ Below w.heap.size w w' := by
  have hr : len 38 ≠ 0 := by decide
  have C := utf.renc_yes 38 w hr
  have CV := enc_text 38 w
  obtain ⟨W, hW⟩ : ∃ W, w.alloc (utf.encBlock 38) = W := ⟨_, rfl⟩
  have HB : Hid (Below w.heap.size w W) := by unfold Hid; rw [← hW]; exact (Below.refl _ _).alloc (Nat.le_refl _) _
  rw [hW] at C CV
  clear hW
  have hp := utf.enc_pos 38 hr
  have hs := TX_size (enc 38)
  have HT : Hid (TX (printL 38 true) = ⟨#[92]⟩ ++ TX (enc 38)) := TX_app [92] (enc 38)
  obtain ⟨X, hX⟩ : ∃ X, TX (enc 38) = X := ⟨_, rfl⟩
  rw [hX] at CV hs HT
  obtain ⟨K, hK⟩ : ∃ K, (enc 38).length = K := ⟨_, rfl⟩
  rw [hK] at C CV hs hp
  clear hX hK
  rw [HT.out]
  have s1 : ByteArray.size ⟨#[92]⟩ = 1 := rfl
  clear HT hr
  have n0 : (wrap64 ((((⟨#[91, 93, 94, 45, 38, 126, 92]⟩ : ByteArray)[0]'(by decide)).toNat : Int)) == 38) = false := by decide +kernel
  have n1 : (wrap64 ((((⟨#[91, 93, 94, 45, 38, 126, 92]⟩ : ByteArray)[1]'(by decide)).toNat : Int)) == 38) = false := by decide +kernel
  have n2 : (wrap64 ((((⟨#[91, 93, 94, 45, 38, 126, 92]⟩ : ByteArray)[2]'(by decide)).toNat : Int)) == 38) = false := by decide +kernel
  have n3 : (wrap64 ((((⟨#[91, 93, 94, 45, 38, 126, 92]⟩ : ByteArray)[3]'(by decide)).toNat : Int)) == 38) = false := by decide +kernel
  have n4 : (wrap64 ((((⟨#[91, 93, 94, 45, 38, 126, 92]⟩ : ByteArray)[4]'(by decide)).toNat : Int)) == 38) = true := by decide +kernel
  go_enter Tryz.func24, Tryz.ntmps24
  go_wp2_with fail
  refine C.mono ?_
  rintro e w1 ⟨rfl, rfl⟩
  clear C
  go_wp2_with fail
  refine wp_loop_rounds 8 ?_
  rw [rounds_succ]
  go_wp2
  rw [rounds_succ]
  go_wp2
  rw [rounds_succ]
  go_wp2
  rw [rounds_succ]
  go_wp2
  rw [rounds_succ]
  go_wp2
  go_ret
  exact ⟨rfl, HB.out⟩
set_option maxHeartbeats 4000000 in
set_option maxRecDepth 100000 in
theorem rpr_mark_true_126 (w : World) : Calls Tryz.prog 24 #[.int .i64 126, .bool true] w fun e w' => e = .returned (.string (TX (printL 126 true))) ∧ Below w.heap.size w w' := by
  have hr : len 126 ≠ 0 := by decide
  have C := utf.renc_yes 126 w hr
  have CV := enc_text 126 w
  obtain ⟨W, hW⟩ : ∃ W, w.alloc (utf.encBlock 126) = W := ⟨_, rfl⟩
  have HB : Hid (Below w.heap.size w W) := by unfold Hid; rw [← hW]; exact (Below.refl _ _).alloc (Nat.le_refl _) _
  rw [hW] at C CV
  clear hW
  have hp := utf.enc_pos 126 hr
  have hs := TX_size (enc 126)
  have HT : Hid (TX (printL 126 true) = ⟨#[92]⟩ ++ TX (enc 126)) := TX_app [92] (enc 126)
  obtain ⟨X, hX⟩ : ∃ X, TX (enc 126) = X := ⟨_, rfl⟩
  rw [hX] at CV hs HT
  obtain ⟨K, hK⟩ : ∃ K, (enc 126).length = K := ⟨_, rfl⟩
  rw [hK] at C CV hs hp
  clear hX hK
  rw [HT.out]
  have s1 : ByteArray.size ⟨#[92]⟩ = 1 := rfl
  clear HT hr
  have n0 : (wrap64 ((((⟨#[91, 93, 94, 45, 38, 126, 92]⟩ : ByteArray)[0]'(by decide)).toNat : Int)) == 126) = false := by decide +kernel
  have n1 : (wrap64 ((((⟨#[91, 93, 94, 45, 38, 126, 92]⟩ : ByteArray)[1]'(by decide)).toNat : Int)) == 126) = false := by decide +kernel
  have n2 : (wrap64 ((((⟨#[91, 93, 94, 45, 38, 126, 92]⟩ : ByteArray)[2]'(by decide)).toNat : Int)) == 126) = false := by decide +kernel
  have n3 : (wrap64 ((((⟨#[91, 93, 94, 45, 38, 126, 92]⟩ : ByteArray)[3]'(by decide)).toNat : Int)) == 126) = false := by decide +kernel
  have n4 : (wrap64 ((((⟨#[91, 93, 94, 45, 38, 126, 92]⟩ : ByteArray)[4]'(by decide)).toNat : Int)) == 126) = false := by decide +kernel
  have n5 : (wrap64 ((((⟨#[91, 93, 94, 45, 38, 126, 92]⟩ : ByteArray)[5]'(by decide)).toNat : Int)) == 126) = true := by decide +kernel
  go_enter Tryz.func24, Tryz.ntmps24
  go_wp2_with fail
  refine C.mono ?_
  rintro e w1 ⟨rfl, rfl⟩
  clear C
  go_wp2_with fail
  refine wp_loop_rounds 8 ?_
  rw [rounds_succ]
  go_wp2
  rw [rounds_succ]
  go_wp2
  rw [rounds_succ]
  go_wp2
  rw [rounds_succ]
  go_wp2
  rw [rounds_succ]
  go_wp2
  rw [rounds_succ]
  go_wp2
  go_ret
  exact ⟨rfl, HB.out⟩
set_option maxHeartbeats 4000000 in
set_option maxRecDepth 100000 in
theorem rpr_mark_true_92 (w : World) : Calls Tryz.prog 24 #[.int .i64 92, .bool true] w fun e w' => e = .returned (.string (TX (printL 92 true))) ∧ Below w.heap.size w w' := by
  have hr : len 92 ≠ 0 := by decide
  have C := utf.renc_yes 92 w hr
  have CV := enc_text 92 w
  obtain ⟨W, hW⟩ : ∃ W, w.alloc (utf.encBlock 92) = W := ⟨_, rfl⟩
  have HB : Hid (Below w.heap.size w W) := by unfold Hid; rw [← hW]; exact (Below.refl _ _).alloc (Nat.le_refl _) _
  rw [hW] at C CV
  clear hW
  have hp := utf.enc_pos 92 hr
  have hs := TX_size (enc 92)
  have HT : Hid (TX (printL 92 true) = ⟨#[92]⟩ ++ TX (enc 92)) := TX_app [92] (enc 92)
  obtain ⟨X, hX⟩ : ∃ X, TX (enc 92) = X := ⟨_, rfl⟩
  rw [hX] at CV hs HT
  obtain ⟨K, hK⟩ : ∃ K, (enc 92).length = K := ⟨_, rfl⟩
  rw [hK] at C CV hs hp
  clear hX hK
  rw [HT.out]
  have s1 : ByteArray.size ⟨#[92]⟩ = 1 := rfl
  clear HT hr
  have n0 : (wrap64 ((((⟨#[91, 93, 94, 45, 38, 126, 92]⟩ : ByteArray)[0]'(by decide)).toNat : Int)) == 92) = false := by decide +kernel
  have n1 : (wrap64 ((((⟨#[91, 93, 94, 45, 38, 126, 92]⟩ : ByteArray)[1]'(by decide)).toNat : Int)) == 92) = false := by decide +kernel
  have n2 : (wrap64 ((((⟨#[91, 93, 94, 45, 38, 126, 92]⟩ : ByteArray)[2]'(by decide)).toNat : Int)) == 92) = false := by decide +kernel
  have n3 : (wrap64 ((((⟨#[91, 93, 94, 45, 38, 126, 92]⟩ : ByteArray)[3]'(by decide)).toNat : Int)) == 92) = false := by decide +kernel
  have n4 : (wrap64 ((((⟨#[91, 93, 94, 45, 38, 126, 92]⟩ : ByteArray)[4]'(by decide)).toNat : Int)) == 92) = false := by decide +kernel
  have n5 : (wrap64 ((((⟨#[91, 93, 94, 45, 38, 126, 92]⟩ : ByteArray)[5]'(by decide)).toNat : Int)) == 92) = false := by decide +kernel
  have n6 : (wrap64 ((((⟨#[91, 93, 94, 45, 38, 126, 92]⟩ : ByteArray)[6]'(by decide)).toNat : Int)) == 92) = true := by decide +kernel
  go_enter Tryz.func24, Tryz.ntmps24
  go_wp2_with fail
  refine C.mono ?_
  rintro e w1 ⟨rfl, rfl⟩
  clear C
  go_wp2_with fail
  refine wp_loop_rounds 8 ?_
  rw [rounds_succ]
  go_wp2
  rw [rounds_succ]
  go_wp2
  rw [rounds_succ]
  go_wp2
  rw [rounds_succ]
  go_wp2
  rw [rounds_succ]
  go_wp2
  rw [rounds_succ]
  go_wp2
  rw [rounds_succ]
  go_wp2
  go_ret
  exact ⟨rfl, HB.out⟩
end Go.Proofs.YtbdediacfckpcaaGreatDoor.tok
end

section
/- The document's Print, and TokenPrint's walk. -/
set_option linter.unusedVariables false
set_option linter.unusedSimpArgs false
namespace Go.Proofs.YtbdediacfckpcaaGreatDoor.tok
open Go.RowKit
open utf (len enc)
open lin (BA Turns)

set_option maxHeartbeats 4000000 in
theorem rprint_any (r : Int) (cls : Bool) (w : World) : Calls Tryz.prog 24 #[.int .i64 r, .bool cls] w fun e w' => e = .returned (.string (TX (printL r cls))) ∧ Below w.heap.size w w' := by
  by_cases hr : len r = 0
  · cases cls
    · exact rpr_none_false r w hr
    · exact rpr_none_true r w hr
  obtain ⟨r0, r1, -⟩ := utf.len_cases r hr
  by_cases h1 : r < 32 ∨ r = 127
  · rcases (show r = 0 ∨ r = 1 ∨ r = 2 ∨ r = 3 ∨ r = 4 ∨ r = 5 ∨ r = 6 ∨ r = 7 ∨ r = 8 ∨ r = 9 ∨ r = 10 ∨ r = 11 ∨ r = 12 ∨ r = 13 ∨ r = 14 ∨ r = 15 ∨ r = 16 ∨ r = 17 ∨ r = 18 ∨ r = 19 ∨ r = 20 ∨ r = 21 ∨ r = 22 ∨ r = 23 ∨ r = 24 ∨ r = 25 ∨ r = 26 ∨ r = 27 ∨ r = 28 ∨ r = 29 ∨ r = 30 ∨ r = 31 ∨ r = 127 from by omega) with rfl | rfl | rfl | rfl | rfl | rfl | rfl | rfl | rfl | rfl | rfl | rfl | rfl | rfl | rfl | rfl | rfl | rfl | rfl | rfl | rfl | rfl | rfl | rfl | rfl | rfl | rfl | rfl | rfl | rfl | rfl | rfl | rfl
    · cases cls
      · exact rpr_hex_false_0 w
      · exact rpr_hex_true_0 w
    · cases cls
      · exact rpr_hex_false_1 w
      · exact rpr_hex_true_1 w
    · cases cls
      · exact rpr_hex_false_2 w
      · exact rpr_hex_true_2 w
    · cases cls
      · exact rpr_hex_false_3 w
      · exact rpr_hex_true_3 w
    · cases cls
      · exact rpr_hex_false_4 w
      · exact rpr_hex_true_4 w
    · cases cls
      · exact rpr_hex_false_5 w
      · exact rpr_hex_true_5 w
    · cases cls
      · exact rpr_hex_false_6 w
      · exact rpr_hex_true_6 w
    · cases cls
      · exact rpr_hex_false_7 w
      · exact rpr_hex_true_7 w
    · cases cls
      · exact rpr_hex_false_8 w
      · exact rpr_hex_true_8 w
    · cases cls
      · exact rpr_hex_false_9 w
      · exact rpr_hex_true_9 w
    · cases cls
      · exact rpr_hex_false_10 w
      · exact rpr_hex_true_10 w
    · cases cls
      · exact rpr_hex_false_11 w
      · exact rpr_hex_true_11 w
    · cases cls
      · exact rpr_hex_false_12 w
      · exact rpr_hex_true_12 w
    · cases cls
      · exact rpr_hex_false_13 w
      · exact rpr_hex_true_13 w
    · cases cls
      · exact rpr_hex_false_14 w
      · exact rpr_hex_true_14 w
    · cases cls
      · exact rpr_hex_false_15 w
      · exact rpr_hex_true_15 w
    · cases cls
      · exact rpr_hex_false_16 w
      · exact rpr_hex_true_16 w
    · cases cls
      · exact rpr_hex_false_17 w
      · exact rpr_hex_true_17 w
    · cases cls
      · exact rpr_hex_false_18 w
      · exact rpr_hex_true_18 w
    · cases cls
      · exact rpr_hex_false_19 w
      · exact rpr_hex_true_19 w
    · cases cls
      · exact rpr_hex_false_20 w
      · exact rpr_hex_true_20 w
    · cases cls
      · exact rpr_hex_false_21 w
      · exact rpr_hex_true_21 w
    · cases cls
      · exact rpr_hex_false_22 w
      · exact rpr_hex_true_22 w
    · cases cls
      · exact rpr_hex_false_23 w
      · exact rpr_hex_true_23 w
    · cases cls
      · exact rpr_hex_false_24 w
      · exact rpr_hex_true_24 w
    · cases cls
      · exact rpr_hex_false_25 w
      · exact rpr_hex_true_25 w
    · cases cls
      · exact rpr_hex_false_26 w
      · exact rpr_hex_true_26 w
    · cases cls
      · exact rpr_hex_false_27 w
      · exact rpr_hex_true_27 w
    · cases cls
      · exact rpr_hex_false_28 w
      · exact rpr_hex_true_28 w
    · cases cls
      · exact rpr_hex_false_29 w
      · exact rpr_hex_true_29 w
    · cases cls
      · exact rpr_hex_false_30 w
      · exact rpr_hex_true_30 w
    · cases cls
      · exact rpr_hex_false_31 w
      · exact rpr_hex_true_31 w
    · cases cls
      · exact rpr_hex_false_127 w
      · exact rpr_hex_true_127 w
  cases cls
  · by_cases h2 : r ∈ marksO
    · have h3 : r = 46 ∨ r = 91 ∨ r = 40 ∨ r = 41 ∨ r = 124 ∨ r = 42 ∨ r = 43 ∨ r = 63 ∨ r = 123 ∨ r = 94 ∨ r = 36 ∨ r = 92 := by simpa [marksO] using h2
      rcases h3 with rfl | rfl | rfl | rfl | rfl | rfl | rfl | rfl | rfl | rfl | rfl | rfl
      · exact rpr_mark_false_46 w
      · exact rpr_mark_false_91 w
      · exact rpr_mark_false_40 w
      · exact rpr_mark_false_41 w
      · exact rpr_mark_false_124 w
      · exact rpr_mark_false_42 w
      · exact rpr_mark_false_43 w
      · exact rpr_mark_false_63 w
      · exact rpr_mark_false_123 w
      · exact rpr_mark_false_94 w
      · exact rpr_mark_false_36 w
      · exact rpr_mark_false_92 w
    · exact rpr_plain_false r w hr h1 h2
  · by_cases h2 : r ∈ marksC
    · have h3 : r = 91 ∨ r = 93 ∨ r = 94 ∨ r = 45 ∨ r = 38 ∨ r = 126 ∨ r = 92 := by simpa [marksC] using h2
      rcases h3 with rfl | rfl | rfl | rfl | rfl | rfl | rfl
      · exact rpr_mark_true_91 w
      · exact rpr_mark_true_93 w
      · exact rpr_mark_true_94 w
      · exact rpr_mark_true_45 w
      · exact rpr_mark_true_38 w
      · exact rpr_mark_true_126 w
      · exact rpr_mark_true_92 w
    · exact rpr_plain_true r w hr h1 h2
end Go.Proofs.YtbdediacfckpcaaGreatDoor.tok
end
