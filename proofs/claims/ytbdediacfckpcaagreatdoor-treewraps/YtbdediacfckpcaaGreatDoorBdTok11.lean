/- Texts that the proof leans on, one behind the other. -/
import Derived.Test.YtbdediacfckpcaaGreatDoorBdTok9

section
/- The document's Print in a class: a code point in hexadecimal. -/
set_option linter.unusedVariables false
set_option linter.unusedSimpArgs false
namespace Go.Proofs.YtbdediacfckpcaaGreatDoor.tok
open Go.RowKit
open utf (len enc)
open lin (BA Turns)

set_option maxHeartbeats 4000000 in
set_option maxRecDepth 100000 in
theorem rpr_hex_true_0 (w : World) : Calls Tryz.prog 24 #[.int .i64 0, .bool true] w fun e w' => e = .returned (.string (TX (printL 0 true))) ∧ Below w.heap.size w w' := by
  have hr : len 0 ≠ 0 := by decide
  have C := utf.renc_yes 0 w hr
  have CV := enc_text 0 w
  obtain ⟨W, hW⟩ : ∃ W, w.alloc (utf.encBlock 0) = W := ⟨_, rfl⟩
  have HB : Hid (Below w.heap.size w W) := by unfold Hid; rw [← hW]; exact (Below.refl _ _).alloc (Nat.le_refl _) _
  rw [hW] at C CV
  clear hW
  have hp := utf.enc_pos 0 hr
  have hs := TX_size (enc 0)
  have HT : TX (printL 0 true) = ⟨#[92, 120, 123, 48, 125]⟩ := by decide +kernel
  rw [HT]
  clear HT hr
  go_enter Tryz.func24, Tryz.ntmps24
  go_wp2_with fail
  refine C.mono ?_
  rintro e w1 ⟨rfl, rfl⟩
  clear C
  go_wp2
  go_ret
  exact ⟨rfl, HB.out⟩
set_option maxHeartbeats 4000000 in
set_option maxRecDepth 100000 in
theorem rpr_hex_true_1 (w : World) : Calls Tryz.prog 24 #[.int .i64 1, .bool true] w fun e w' => e = .returned (.string (TX (printL 1 true))) ∧ Below w.heap.size w w' := by
  have hr : len 1 ≠ 0 := by decide
  have C := utf.renc_yes 1 w hr
  have CV := enc_text 1 w
  obtain ⟨W, hW⟩ : ∃ W, w.alloc (utf.encBlock 1) = W := ⟨_, rfl⟩
  have HB : Hid (Below w.heap.size w W) := by unfold Hid; rw [← hW]; exact (Below.refl _ _).alloc (Nat.le_refl _) _
  rw [hW] at C CV
  clear hW
  have hp := utf.enc_pos 1 hr
  have hs := TX_size (enc 1)
  have HT : TX (printL 1 true) = ⟨#[92, 120, 123, 49, 125]⟩ := by decide +kernel
  rw [HT]
  clear HT hr
  go_enter Tryz.func24, Tryz.ntmps24
  go_wp2_with fail
  refine C.mono ?_
  rintro e w1 ⟨rfl, rfl⟩
  clear C
  go_wp2
  go_ret
  exact ⟨rfl, HB.out⟩
set_option maxHeartbeats 4000000 in
set_option maxRecDepth 100000 in
theorem rpr_hex_true_2 (w : World) : Calls Tryz.prog 24 #[.int .i64 2, .bool true] w fun e w' => e = .returned (.string (TX (printL 2 true))) ∧ Below w.heap.size w w' := by
  have hr : len 2 ≠ 0 := by decide
  have C := utf.renc_yes 2 w hr
  have CV := enc_text 2 w
  obtain ⟨W, hW⟩ : ∃ W, w.alloc (utf.encBlock 2) = W := ⟨_, rfl⟩
  have HB : Hid (Below w.heap.size w W) := by unfold Hid; rw [← hW]; exact (Below.refl _ _).alloc (Nat.le_refl _) _
  rw [hW] at C CV
  clear hW
  have hp := utf.enc_pos 2 hr
  have hs := TX_size (enc 2)
  have HT : TX (printL 2 true) = ⟨#[92, 120, 123, 50, 125]⟩ := by decide +kernel
  rw [HT]
  clear HT hr
  go_enter Tryz.func24, Tryz.ntmps24
  go_wp2_with fail
  refine C.mono ?_
  rintro e w1 ⟨rfl, rfl⟩
  clear C
  go_wp2
  go_ret
  exact ⟨rfl, HB.out⟩
set_option maxHeartbeats 4000000 in
set_option maxRecDepth 100000 in
theorem rpr_hex_true_3 (w : World) : Calls Tryz.prog 24 #[.int .i64 3, .bool true] w fun e w' => e = .returned (.string (TX (printL 3 true))) ∧ Below w.heap.size w w' := by
  have hr : len 3 ≠ 0 := by decide
  have C := utf.renc_yes 3 w hr
  have CV := enc_text 3 w
  obtain ⟨W, hW⟩ : ∃ W, w.alloc (utf.encBlock 3) = W := ⟨_, rfl⟩
  have HB : Hid (Below w.heap.size w W) := by unfold Hid; rw [← hW]; exact (Below.refl _ _).alloc (Nat.le_refl _) _
  rw [hW] at C CV
  clear hW
  have hp := utf.enc_pos 3 hr
  have hs := TX_size (enc 3)
  have HT : TX (printL 3 true) = ⟨#[92, 120, 123, 51, 125]⟩ := by decide +kernel
  rw [HT]
  clear HT hr
  go_enter Tryz.func24, Tryz.ntmps24
  go_wp2_with fail
  refine C.mono ?_
  rintro e w1 ⟨rfl, rfl⟩
  clear C
  go_wp2
  go_ret
  exact ⟨rfl, HB.out⟩
set_option maxHeartbeats 4000000 in
set_option maxRecDepth 100000 in
theorem rpr_hex_true_4 (w : World) : Calls Tryz.prog 24 #[.int .i64 4, .bool true] w fun e w' => e = .returned (.string (TX (printL 4 true))) ∧ Below w.heap.size w w' := by
  have hr : len 4 ≠ 0 := by decide
  have C := utf.renc_yes 4 w hr
  have CV := enc_text 4 w
  obtain ⟨W, hW⟩ : ∃ W, w.alloc (utf.encBlock 4) = W := ⟨_, rfl⟩
  have HB : Hid (Below w.heap.size w W) := by unfold Hid; rw [← hW]; exact (Below.refl _ _).alloc (Nat.le_refl _) _
  rw [hW] at C CV
  clear hW
  have hp := utf.enc_pos 4 hr
  have hs := TX_size (enc 4)
  have HT : TX (printL 4 true) = ⟨#[92, 120, 123, 52, 125]⟩ := by decide +kernel
  rw [HT]
  clear HT hr
  go_enter Tryz.func24, Tryz.ntmps24
  go_wp2_with fail
  refine C.mono ?_
  rintro e w1 ⟨rfl, rfl⟩
  clear C
  go_wp2
  go_ret
  exact ⟨rfl, HB.out⟩
set_option maxHeartbeats 4000000 in
set_option maxRecDepth 100000 in
theorem rpr_hex_true_5 (w : World) : Calls Tryz.prog 24 #[.int .i64 5, .bool true] w fun e w' => e = .returned (.string (TX (printL 5 true))) ∧ Below w.heap.size w w' := by
  have hr : len 5 ≠ 0 := by decide
  have C := utf.renc_yes 5 w hr
  have CV := enc_text 5 w
  obtain ⟨W, hW⟩ : ∃ W, w.alloc (utf.encBlock 5) = W := ⟨_, rfl⟩
  have HB : Hid (Below w.heap.size w W) := by unfold Hid; rw [← hW]; exact (Below.refl _ _).alloc (Nat.le_refl _) _
  rw [hW] at C CV
  clear hW
  have hp := utf.enc_pos 5 hr
  have hs := TX_size (enc 5)
  have HT : TX (printL 5 true) = ⟨#[92, 120, 123, 53, 125]⟩ := by decide +kernel
  rw [HT]
  clear HT hr
  go_enter Tryz.func24, Tryz.ntmps24
  go_wp2_with fail
  refine C.mono ?_
  rintro e w1 ⟨rfl, rfl⟩
  clear C
  go_wp2
  go_ret
  exact ⟨rfl, HB.out⟩
set_option maxHeartbeats 4000000 in
set_option maxRecDepth 100000 in
theorem rpr_hex_true_6 (w : World) : Calls Tryz.prog 24 #[.int .i64 6, .bool true] w fun e w' => e = .returned (.string (TX (printL 6 true))) ∧ Below w.heap.size w w' := by
  have hr : len 6 ≠ 0 := by decide
  have C := utf.renc_yes 6 w hr
  have CV := enc_text 6 w
  obtain ⟨W, hW⟩ : ∃ W, w.alloc (utf.encBlock 6) = W := ⟨_, rfl⟩
  have HB : Hid (Below w.heap.size w W) := by unfold Hid; rw [← hW]; exact (Below.refl _ _).alloc (Nat.le_refl _) _
  rw [hW] at C CV
  clear hW
  have hp := utf.enc_pos 6 hr
  have hs := TX_size (enc 6)
  have HT : TX (printL 6 true) = ⟨#[92, 120, 123, 54, 125]⟩ := by decide +kernel
  rw [HT]
  clear HT hr
  go_enter Tryz.func24, Tryz.ntmps24
  go_wp2_with fail
  refine C.mono ?_
  rintro e w1 ⟨rfl, rfl⟩
  clear C
  go_wp2
  go_ret
  exact ⟨rfl, HB.out⟩
set_option maxHeartbeats 4000000 in
set_option maxRecDepth 100000 in
theorem rpr_hex_true_7 (w : World) : Calls Tryz.prog 24 #[.int .i64 7, .bool true] w fun e w' => e = .returned (.string (TX (printL 7 true))) ∧ Below w.heap.size w w' := by
  have hr : len 7 ≠ 0 := by decide
  have C := utf.renc_yes 7 w hr
  have CV := enc_text 7 w
  obtain ⟨W, hW⟩ : ∃ W, w.alloc (utf.encBlock 7) = W := ⟨_, rfl⟩
  have HB : Hid (Below w.heap.size w W) := by unfold Hid; rw [← hW]; exact (Below.refl _ _).alloc (Nat.le_refl _) _
  rw [hW] at C CV
  clear hW
  have hp := utf.enc_pos 7 hr
  have hs := TX_size (enc 7)
  have HT : TX (printL 7 true) = ⟨#[92, 120, 123, 55, 125]⟩ := by decide +kernel
  rw [HT]
  clear HT hr
  go_enter Tryz.func24, Tryz.ntmps24
  go_wp2_with fail
  refine C.mono ?_
  rintro e w1 ⟨rfl, rfl⟩
  clear C
  go_wp2
  go_ret
  exact ⟨rfl, HB.out⟩
set_option maxHeartbeats 4000000 in
set_option maxRecDepth 100000 in
theorem rpr_hex_true_8 (w : World) : Calls Tryz.prog 24 #[.int .i64 8, .bool true] w fun e w' => e = .returned (.string (TX (printL 8 true))) ∧ Below w.heap.size w w' := by
  have hr : len 8 ≠ 0 := by decide
  have C := utf.renc_yes 8 w hr
  have CV := enc_text 8 w
  obtain ⟨W, hW⟩ : ∃ W, w.alloc (utf.encBlock 8) = W := ⟨_, rfl⟩
  have HB : Hid (Below w.heap.size w W) := by unfold Hid; rw [← hW]; exact (Below.refl _ _).alloc (Nat.le_refl _) _
  rw [hW] at C CV
  clear hW
  have hp := utf.enc_pos 8 hr
  have hs := TX_size (enc 8)
  have HT : TX (printL 8 true) = ⟨#[92, 120, 123, 56, 125]⟩ := by decide +kernel
  rw [HT]
  clear HT hr
  go_enter Tryz.func24, Tryz.ntmps24
  go_wp2_with fail
  refine C.mono ?_
  rintro e w1 ⟨rfl, rfl⟩
  clear C
  go_wp2
  go_ret
  exact ⟨rfl, HB.out⟩
set_option maxHeartbeats 4000000 in
set_option maxRecDepth 100000 in
theorem rpr_hex_true_9 (w : World) : Calls Tryz.prog 24 #[.int .i64 9, .bool true] w fun e w' => e = .returned (.string (TX (printL 9 true))) ∧ Below w.heap.size w w' := by
  have hr : len 9 ≠ 0 := by decide
  have C := utf.renc_yes 9 w hr
  have CV := enc_text 9 w
  obtain ⟨W, hW⟩ : ∃ W, w.alloc (utf.encBlock 9) = W := ⟨_, rfl⟩
  have HB : Hid (Below w.heap.size w W) := by unfold Hid; rw [← hW]; exact (Below.refl _ _).alloc (Nat.le_refl _) _
  rw [hW] at C CV
  clear hW
  have hp := utf.enc_pos 9 hr
  have hs := TX_size (enc 9)
  have HT : TX (printL 9 true) = ⟨#[92, 120, 123, 57, 125]⟩ := by decide +kernel
  rw [HT]
  clear HT hr
  go_enter Tryz.func24, Tryz.ntmps24
  go_wp2_with fail
  refine C.mono ?_
  rintro e w1 ⟨rfl, rfl⟩
  clear C
  go_wp2
  go_ret
  exact ⟨rfl, HB.out⟩
set_option maxHeartbeats 4000000 in
set_option maxRecDepth 100000 in
theorem rpr_hex_true_10 (w : World) : Calls Tryz.prog 24 #[.int .i64 10, .bool true] w fun e w' => e = .returned (.string (TX (printL 10 true))) ∧ Below w.heap.size w w' := by
  have hr : len 10 ≠ 0 := by decide
  have C := utf.renc_yes 10 w hr
  have CV := enc_text 10 w
  obtain ⟨W, hW⟩ : ∃ W, w.alloc (utf.encBlock 10) = W := ⟨_, rfl⟩
  have HB : Hid (Below w.heap.size w W) := by unfold Hid; rw [← hW]; exact (Below.refl _ _).alloc (Nat.le_refl _) _
  rw [hW] at C CV
  clear hW
  have hp := utf.enc_pos 10 hr
  have hs := TX_size (enc 10)
  have HT : TX (printL 10 true) = ⟨#[92, 120, 123, 65, 125]⟩ := by decide +kernel
  rw [HT]
  clear HT hr
  go_enter Tryz.func24, Tryz.ntmps24
  go_wp2_with fail
  refine C.mono ?_
  rintro e w1 ⟨rfl, rfl⟩
  clear C
  go_wp2
  go_ret
  exact ⟨rfl, HB.out⟩
set_option maxHeartbeats 4000000 in
set_option maxRecDepth 100000 in
theorem rpr_hex_true_11 (w : World) : Calls Tryz.prog 24 #[.int .i64 11, .bool true] w fun e w' => e = .returned (.string (TX (printL 11 true))) ∧ Below w.heap.size w w' := by
  have hr : len 11 ≠ 0 := by decide
  have C := utf.renc_yes 11 w hr
  have CV := enc_text 11 w
  obtain ⟨W, hW⟩ : ∃ W, w.alloc (utf.encBlock 11) = W := ⟨_, rfl⟩
  have HB : Hid (Below w.heap.size w W) := by unfold Hid; rw [← hW]; exact (Below.refl _ _).alloc (Nat.le_refl _) _
  rw [hW] at C CV
  clear hW
  have hp := utf.enc_pos 11 hr
  have hs := TX_size (enc 11)
  have HT : TX (printL 11 true) = ⟨#[92, 120, 123, 66, 125]⟩ := by decide +kernel
  rw [HT]
  clear HT hr
  go_enter Tryz.func24, Tryz.ntmps24
  go_wp2_with fail
  refine C.mono ?_
  rintro e w1 ⟨rfl, rfl⟩
  clear C
  go_wp2
  go_ret
  exact ⟨rfl, HB.out⟩
set_option maxHeartbeats 4000000 in
set_option maxRecDepth 100000 in
theorem rpr_hex_true_12 (w : World) : Calls Tryz.prog 24 #[.int .i64 12, .bool true] w fun e w' => e = .returned (.string (TX (printL 12 true))) ∧ Below w.heap.size w w' := by
  have hr : len 12 ≠ 0 := by decide
  have C := utf.renc_yes 12 w hr
  have CV := enc_text 12 w
  obtain ⟨W, hW⟩ : ∃ W, w.alloc (utf.encBlock 12) = W := ⟨_, rfl⟩
  have HB : Hid (Below w.heap.size w W) := by unfold Hid; rw [← hW]; exact (Below.refl _ _).alloc (Nat.le_refl _) _
  rw [hW] at C CV
  clear hW
  have hp := utf.enc_pos 12 hr
  have hs := TX_size (enc 12)
  have HT : TX (printL 12 true) = ⟨#[92, 120, 123, 67, 125]⟩ := by decide +kernel
  rw [HT]
  clear HT hr
  go_enter Tryz.func24, Tryz.ntmps24
  go_wp2_with fail
  refine C.mono ?_
  rintro e w1 ⟨rfl, rfl⟩
  clear C
  go_wp2
  go_ret
  exact ⟨rfl, HB.out⟩
set_option maxHeartbeats 4000000 in
set_option maxRecDepth 100000 in
theorem rpr_hex_true_13 (w : World) : Calls Tryz.prog 24 #[.int .i64 13, .bool true] w fun e w' => e = .returned (.string (TX (printL 13 true))) ∧ Below w.heap.size w w' := by
  have hr : len 13 ≠ 0 := by decide
  have C := utf.renc_yes 13 w hr
  have CV := enc_text 13 w
  obtain ⟨W, hW⟩ : ∃ W, w.alloc (utf.encBlock 13) = W := ⟨_, rfl⟩
  have HB : Hid (Below w.heap.size w W) := by unfold Hid; rw [← hW]; exact (Below.refl _ _).alloc (Nat.le_refl _) _
  rw [hW] at C CV
  clear hW
  have hp := utf.enc_pos 13 hr
  have hs := TX_size (enc 13)
  have HT : TX (printL 13 true) = ⟨#[92, 120, 123, 68, 125]⟩ := by decide +kernel
  rw [HT]
  clear HT hr
  go_enter Tryz.func24, Tryz.ntmps24
  go_wp2_with fail
  refine C.mono ?_
  rintro e w1 ⟨rfl, rfl⟩
  clear C
  go_wp2
  go_ret
  exact ⟨rfl, HB.out⟩
set_option maxHeartbeats 4000000 in
set_option maxRecDepth 100000 in
theorem rpr_hex_true_14 (w : World) : Calls Tryz.prog 24 #[.int .i64 14, .bool true] w fun e w' => e = .returned (.string (TX (printL 14 true))) ∧ Below w.heap.size w w' := by
  have hr : len 14 ≠ 0 := by decide
  have C := utf.renc_yes 14 w hr
  have CV := enc_text 14 w
  obtain ⟨W, hW⟩ : ∃ W, w.alloc (utf.encBlock 14) = W := ⟨_, rfl⟩
  have HB : Hid (Below w.heap.size w W) := by unfold Hid; rw [← hW]; exact (Below.refl _ _).alloc (Nat.le_refl _) _
  rw [hW] at C CV
  clear hW
  have hp := utf.enc_pos 14 hr
  have hs := TX_size (enc 14)
  have HT : TX (printL 14 true) = ⟨#[92, 120, 123, 69, 125]⟩ := by decide +kernel
  rw [HT]
  clear HT hr
  go_enter Tryz.func24, Tryz.ntmps24
  go_wp2_with fail
  refine C.mono ?_
  rintro e w1 ⟨rfl, rfl⟩
  clear C
  go_wp2
  go_ret
  exact ⟨rfl, HB.out⟩
set_option maxHeartbeats 4000000 in
set_option maxRecDepth 100000 in
theorem rpr_hex_true_15 (w : World) : Calls Tryz.prog 24 #[.int .i64 15, .bool true] w fun e w' => e = .returned (.string (TX (printL 15 true))) ∧ Below w.heap.size w w' := by
  have hr : len 15 ≠ 0 := by decide
  have C := utf.renc_yes 15 w hr
  have CV := enc_text 15 w
  obtain ⟨W, hW⟩ : ∃ W, w.alloc (utf.encBlock 15) = W := ⟨_, rfl⟩
  have HB : Hid (Below w.heap.size w W) := by unfold Hid; rw [← hW]; exact (Below.refl _ _).alloc (Nat.le_refl _) _
  rw [hW] at C CV
  clear hW
  have hp := utf.enc_pos 15 hr
  have hs := TX_size (enc 15)
  have HT : TX (printL 15 true) = ⟨#[92, 120, 123, 70, 125]⟩ := by decide +kernel
  rw [HT]
  clear HT hr
  go_enter Tryz.func24, Tryz.ntmps24
  go_wp2_with fail
  refine C.mono ?_
  rintro e w1 ⟨rfl, rfl⟩
  clear C
  go_wp2
  go_ret
  exact ⟨rfl, HB.out⟩
set_option maxHeartbeats 4000000 in
set_option maxRecDepth 100000 in
theorem rpr_hex_true_16 (w : World) : Calls Tryz.prog 24 #[.int .i64 16, .bool true] w fun e w' => e = .returned (.string (TX (printL 16 true))) ∧ Below w.heap.size w w' := by
  have hr : len 16 ≠ 0 := by decide
  have C := utf.renc_yes 16 w hr
  have CV := enc_text 16 w
  obtain ⟨W, hW⟩ : ∃ W, w.alloc (utf.encBlock 16) = W := ⟨_, rfl⟩
  have HB : Hid (Below w.heap.size w W) := by unfold Hid; rw [← hW]; exact (Below.refl _ _).alloc (Nat.le_refl _) _
  rw [hW] at C CV
  clear hW
  have hp := utf.enc_pos 16 hr
  have hs := TX_size (enc 16)
  have HT : TX (printL 16 true) = ⟨#[92, 120, 123, 49, 48, 125]⟩ := by decide +kernel
  rw [HT]
  clear HT hr
  go_enter Tryz.func24, Tryz.ntmps24
  go_wp2_with fail
  refine C.mono ?_
  rintro e w1 ⟨rfl, rfl⟩
  clear C
  go_wp2
  go_ret
  exact ⟨rfl, HB.out⟩
set_option maxHeartbeats 4000000 in
set_option maxRecDepth 100000 in
theorem rpr_hex_true_17 (w : World) : Calls Tryz.prog 24 #[.int .i64 17, .bool true] w fun e w' => e = .returned (.string (TX (printL 17 true))) ∧ Below w.heap.size w w' := by
  have hr : len 17 ≠ 0 := by decide
  have C := utf.renc_yes 17 w hr
  have CV := enc_text 17 w
  obtain ⟨W, hW⟩ : ∃ W, w.alloc (utf.encBlock 17) = W := ⟨_, rfl⟩
  have HB : Hid (Below w.heap.size w W) := by unfold Hid; rw [← hW]; exact (Below.refl _ _).alloc (Nat.le_refl _) _
  rw [hW] at C CV
  clear hW
  have hp := utf.enc_pos 17 hr
  have hs := TX_size (enc 17)
  have HT : TX (printL 17 true) = ⟨#[92, 120, 123, 49, 49, 125]⟩ := by decide +kernel
  rw [HT]
  clear HT hr
  go_enter Tryz.func24, Tryz.ntmps24
  go_wp2_with fail
  refine C.mono ?_
  rintro e w1 ⟨rfl, rfl⟩
  clear C
  go_wp2
  go_ret
  exact ⟨rfl, HB.out⟩
set_option maxHeartbeats 4000000 in
set_option maxRecDepth 100000 in
theorem rpr_hex_true_18 (w : World) : Calls Tryz.prog 24 #[.int .i64 18, .bool true] w fun e w' => e = .returned (.string (TX (printL 18 true))) ∧ Below w.heap.size w w' := by
  have hr : len 18 ≠ 0 := by decide
  have C := utf.renc_yes 18 w hr
  have CV := enc_text 18 w
  obtain ⟨W, hW⟩ : ∃ W, w.alloc (utf.encBlock 18) = W := ⟨_, rfl⟩
  have HB : Hid (Below w.heap.size w W) := by unfold Hid; rw [← hW]; exact (Below.refl _ _).alloc (Nat.le_refl _) _
  rw [hW] at C CV
  clear hW
  have hp := utf.enc_pos 18 hr
  have hs := TX_size (enc 18)
  have HT : TX (printL 18 true) = ⟨#[92, 120, 123, 49, 50, 125]⟩ := by decide +kernel
  rw [HT]
  clear HT hr
  go_enter Tryz.func24, Tryz.ntmps24
  go_wp2_with fail
  refine C.mono ?_
  rintro e w1 ⟨rfl, rfl⟩
  clear C
  go_wp2
  go_ret
  exact ⟨rfl, HB.out⟩
set_option maxHeartbeats 4000000 in
set_option maxRecDepth 100000 in
theorem rpr_hex_true_19 (w : World) : Calls Tryz.prog 24 #[.int .i64 19, .bool true] w fun e w' => e = .returned (.string (TX (printL 19 true))) ∧ Below w.heap.size w w' := by
  have hr : len 19 ≠ 0 := by decide
  have C := utf.renc_yes 19 w hr
  have CV := enc_text 19 w
  obtain ⟨W, hW⟩ : ∃ W, w.alloc (utf.encBlock 19) = W := ⟨_, rfl⟩
  have HB : Hid (Below w.heap.size w W) := by unfold Hid; rw [← hW]; exact (Below.refl _ _).alloc (Nat.le_refl _) _
  rw [hW] at C CV
  clear hW
  have hp := utf.enc_pos 19 hr
  have hs := TX_size (enc 19)
  have HT : TX (printL 19 true) = ⟨#[92, 120, 123, 49, 51, 125]⟩ := by decide +kernel
  rw [HT]
  clear HT hr
  go_enter Tryz.func24, Tryz.ntmps24
  go_wp2_with fail
  refine C.mono ?_
  rintro e w1 ⟨rfl, rfl⟩
  clear C
  go_wp2
  go_ret
  exact ⟨rfl, HB.out⟩
set_option maxHeartbeats 4000000 in
set_option maxRecDepth 100000 in
theorem rpr_hex_true_20 (w : World) : Calls Tryz.prog 24 #[.int .i64 20, .bool true] w fun e w' => e = .returned (.string (TX (printL 20 true))) ∧ Below w.heap.size w w' := by
  have hr : len 20 ≠ 0 := by decide
  have C := utf.renc_yes 20 w hr
  have CV := enc_text 20 w
  obtain ⟨W, hW⟩ : ∃ W, w.alloc (utf.encBlock 20) = W := ⟨_, rfl⟩
  have HB : Hid (Below w.heap.size w W) := by unfold Hid; rw [← hW]; exact (Below.refl _ _).alloc (Nat.le_refl _) _
  rw [hW] at C CV
  clear hW
  have hp := utf.enc_pos 20 hr
  have hs := TX_size (enc 20)
  have HT : TX (printL 20 true) = ⟨#[92, 120, 123, 49, 52, 125]⟩ := by decide +kernel
  rw [HT]
  clear HT hr
  go_enter Tryz.func24, Tryz.ntmps24
  go_wp2_with fail
  refine C.mono ?_
  rintro e w1 ⟨rfl, rfl⟩
  clear C
  go_wp2
  go_ret
  exact ⟨rfl, HB.out⟩
set_option maxHeartbeats 4000000 in
set_option maxRecDepth 100000 in
theorem rpr_hex_true_21 (w : World) : Calls Tryz.prog 24 #[.int .i64 21, .bool true] w fun e w' => e = .returned (.string (TX (printL 21 true))) ∧ Below w.heap.size w w' := by
  have hr : len 21 ≠ 0 := by decide
  have C := utf.renc_yes 21 w hr
  have CV := enc_text 21 w
  obtain ⟨W, hW⟩ : ∃ W, w.alloc (utf.encBlock 21) = W := ⟨_, rfl⟩
  have HB : Hid (Below w.heap.size w W) := by unfold Hid; rw [← hW]; exact (Below.refl _ _).alloc (Nat.le_refl _) _
  rw [hW] at C CV
  clear hW
  have hp := utf.enc_pos 21 hr
  have hs := TX_size (enc 21)
  have HT : TX (printL 21 true) = ⟨#[92, 120, 123, 49, 53, 125]⟩ := by decide +kernel
  rw [HT]
  clear HT hr
  go_enter Tryz.func24, Tryz.ntmps24
  go_wp2_with fail
  refine C.mono ?_
  rintro e w1 ⟨rfl, rfl⟩
  clear C
  go_wp2
  go_ret
  exact ⟨rfl, HB.out⟩
set_option maxHeartbeats 4000000 in
set_option maxRecDepth 100000 in
theorem rpr_hex_true_22 (w : World) : Calls Tryz.prog 24 #[.int .i64 22, .bool true] w fun e w' => e = .returned (.string (TX (printL 22 true))) ∧ Below w.heap.size w w' := by
  have hr : len 22 ≠ 0 := by decide
  have C := utf.renc_yes 22 w hr
  have CV := enc_text 22 w
  obtain ⟨W, hW⟩ : ∃ W, w.alloc (utf.encBlock 22) = W := ⟨_, rfl⟩
  have HB : Hid (Below w.heap.size w W) := by unfold Hid; rw [← hW]; exact (Below.refl _ _).alloc (Nat.le_refl _) _
  rw [hW] at C CV
  clear hW
  have hp := utf.enc_pos 22 hr
  have hs := TX_size (enc 22)
  have HT : TX (printL 22 true) = ⟨#[92, 120, 123, 49, 54, 125]⟩ := by decide +kernel
  rw [HT]
  clear HT hr
  go_enter Tryz.func24, Tryz.ntmps24
  go_wp2_with fail
  refine C.mono ?_
  rintro e w1 ⟨rfl, rfl⟩
  clear C
  go_wp2
  go_ret
  exact ⟨rfl, HB.out⟩
set_option maxHeartbeats 4000000 in
set_option maxRecDepth 100000 in
theorem rpr_hex_true_23 (w : World) : Calls Tryz.prog 24 #[.int .i64 23, .bool true] w fun e w' => e = .returned (.string (TX (printL 23 true))) ∧ Below w.heap.size w w' := by
  have hr : len 23 ≠ 0 := by decide
  have C := utf.renc_yes 23 w hr
  have CV := enc_text 23 w
  obtain ⟨W, hW⟩ : ∃ W, w.alloc (utf.encBlock 23) = W := ⟨_, rfl⟩
  have HB : Hid (Below w.heap.size w W) := by unfold Hid; rw [← hW]; exact (Below.refl _ _).alloc (Nat.le_refl _) _
  rw [hW] at C CV
  clear hW
  have hp := utf.enc_pos 23 hr
  have hs := TX_size (enc 23)
  have HT : TX (printL 23 true) = ⟨#[92, 120, 123, 49, 55, 125]⟩ := by decide +kernel
  rw [HT]
  clear HT hr
  go_enter Tryz.func24, Tryz.ntmps24
  go_wp2_with fail
  refine C.mono ?_
  rintro e w1 ⟨rfl, rfl⟩
  clear C
  go_wp2
  go_ret
  exact ⟨rfl, HB.out⟩
set_option maxHeartbeats 4000000 in
set_option maxRecDepth 100000 in
theorem rpr_hex_true_24 (w : World) : Calls Tryz.prog 24 #[.int .i64 24, .bool true] w fun e w' => e = .returned (.string (TX (printL 24 true))) ∧ Below w.heap.size w w' := by
  have hr : len 24 ≠ 0 := by decide
  have C := utf.renc_yes 24 w hr
  have CV := enc_text 24 w
  obtain ⟨W, hW⟩ : ∃ W, w.alloc (utf.encBlock 24) = W := ⟨_, rfl⟩
  have HB : Hid (Below w.heap.size w W) := by unfold Hid; rw [← hW]; exact (Below.refl _ _).alloc (Nat.le_refl _) _
  rw [hW] at C CV
  clear hW
  have hp := utf.enc_pos 24 hr
  have hs := TX_size (enc 24)
  have HT : TX (printL 24 true) = ⟨#[92, 120, 123, 49, 56, 125]⟩ := by decide +kernel
  rw [HT]
  clear HT hr
  go_enter Tryz.func24, Tryz.ntmps24
  go_wp2_with fail
  refine C.mono ?_
  rintro e w1 ⟨rfl, rfl⟩
  clear C
  go_wp2
  go_ret
  exact ⟨rfl, HB.out⟩
set_option maxHeartbeats 4000000 in
set_option maxRecDepth 100000 in
theorem rpr_hex_true_25 (w : World) : Calls Tryz.prog 24 #[.int .i64 25, .bool true] w fun e w' => e = .returned (.string (TX (printL 25 true))) ∧ Below w.heap.size w w' := by
  have hr : len 25 ≠ 0 := by decide
  have C := utf.renc_yes 25 w hr
  have CV := enc_text 25 w
  obtain ⟨W, hW⟩ : ∃ W, w.alloc (utf.encBlock 25) = W := ⟨_, rfl⟩
  have HB : Hid (Below w.heap.size w W) := by unfold Hid; rw [← hW]; exact (Below.refl _ _).alloc (Nat.le_refl _) _
  rw [hW] at C CV
  clear hW
  have hp := utf.enc_pos 25 hr
  have hs := TX_size (enc 25)
  have HT : TX (printL 25 true) = ⟨#[92, 120, 123, 49, 57, 125]⟩ := by decide +kernel
  rw [HT]
  clear HT hr
  go_enter Tryz.func24, Tryz.ntmps24
  go_wp2_with fail
  refine C.mono ?_
  rintro e w1 ⟨rfl, rfl⟩
  clear C
  go_wp2
  go_ret
  exact ⟨rfl, HB.out⟩
set_option maxHeartbeats 4000000 in
set_option maxRecDepth 100000 in
theorem rpr_hex_true_26 (w : World) : Calls Tryz.prog 24 #[.int .i64 26, .bool true] w fun e w' => e = .returned (.string (TX (printL 26 true))) ∧ Below w.heap.size w w' := by
  have hr : len 26 ≠ 0 := by decide
  have C := utf.renc_yes 26 w hr
  have CV := enc_text 26 w
  obtain ⟨W, hW⟩ : ∃ W, w.alloc (utf.encBlock 26) = W := ⟨_, rfl⟩
  have HB : Hid (Below w.heap.size w W) := by unfold Hid; rw [← hW]; exact (Below.refl _ _).alloc (Nat.le_refl _) _
  rw [hW] at C CV
  clear hW
  have hp := utf.enc_pos 26 hr
  have hs := TX_size (enc 26)
  have HT : TX (printL 26 true) = ⟨#[92, 120, 123, 49, 65, 125]⟩ := by decide +kernel
  rw [HT]
  clear HT hr
  go_enter Tryz.func24, Tryz.ntmps24
  go_wp2_with fail
  refine C.mono ?_
  rintro e w1 ⟨rfl, rfl⟩
  clear C
  go_wp2
  go_ret
  exact ⟨rfl, HB.out⟩
set_option maxHeartbeats 4000000 in
set_option maxRecDepth 100000 in
theorem rpr_hex_true_27 (w : World) : Calls Tryz.prog 24 #[.int .i64 27, .bool true] w fun e w' => e = .returned (.string (TX (printL 27 true))) ∧ Below w.heap.size w w' := by
  have hr : len 27 ≠ 0 := by decide
  have C := utf.renc_yes 27 w hr
  have CV := enc_text 27 w
  obtain ⟨W, hW⟩ : ∃ W, w.alloc (utf.encBlock 27) = W := ⟨_, rfl⟩
  have HB : Hid (Below w.heap.size w W) := by unfold Hid; rw [← hW]; exact (Below.refl _ _).alloc (Nat.le_refl _) _
  rw [hW] at C CV
  clear hW
  have hp := utf.enc_pos 27 hr
  have hs := TX_size (enc 27)
  have HT : TX (printL 27 true) = ⟨#[92, 120, 123, 49, 66, 125]⟩ := by decide +kernel
  rw [HT]
  clear HT hr
  go_enter Tryz.func24, Tryz.ntmps24
  go_wp2_with fail
  refine C.mono ?_
  rintro e w1 ⟨rfl, rfl⟩
  clear C
  go_wp2
  go_ret
  exact ⟨rfl, HB.out⟩
set_option maxHeartbeats 4000000 in
set_option maxRecDepth 100000 in
theorem rpr_hex_true_28 (w : World) : Calls Tryz.prog 24 #[.int .i64 28, .bool true] w fun e w' => e = .returned (.string (TX (printL 28 true))) ∧ Below w.heap.size w w' := by
  have hr : len 28 ≠ 0 := by decide
  have C := utf.renc_yes 28 w hr
  have CV := enc_text 28 w
  obtain ⟨W, hW⟩ : ∃ W, w.alloc (utf.encBlock 28) = W := ⟨_, rfl⟩
  have HB : Hid (Below w.heap.size w W) := by unfold Hid; rw [← hW]; exact (Below.refl _ _).alloc (Nat.le_refl _) _
  rw [hW] at C CV
  clear hW
  have hp := utf.enc_pos 28 hr
  have hs := TX_size (enc 28)
  have HT : TX (printL 28 true) = ⟨#[92, 120, 123, 49, 67, 125]⟩ := by decide +kernel
  rw [HT]
  clear HT hr
  go_enter Tryz.func24, Tryz.ntmps24
  go_wp2_with fail
  refine C.mono ?_
  rintro e w1 ⟨rfl, rfl⟩
  clear C
  go_wp2
  go_ret
  exact ⟨rfl, HB.out⟩
set_option maxHeartbeats 4000000 in
set_option maxRecDepth 100000 in
theorem rpr_hex_true_29 (w : World) : Calls Tryz.prog 24 #[.int .i64 29, .bool true] w fun e w' => e = .returned (.string (TX (printL 29 true))) ∧ Below w.heap.size w w' := by
  have hr : len 29 ≠ 0 := by decide
  have C := utf.renc_yes 29 w hr
  have CV := enc_text 29 w
  obtain ⟨W, hW⟩ : ∃ W, w.alloc (utf.encBlock 29) = W := ⟨_, rfl⟩
  have HB : Hid (Below w.heap.size w W) := by unfold Hid; rw [← hW]; exact (Below.refl _ _).alloc (Nat.le_refl _) _
  rw [hW] at C CV
  clear hW
  have hp := utf.enc_pos 29 hr
  have hs := TX_size (enc 29)
  have HT : TX (printL 29 true) = ⟨#[92, 120, 123, 49, 68, 125]⟩ := by decide +kernel
  rw [HT]
  clear HT hr
  go_enter Tryz.func24, Tryz.ntmps24
  go_wp2_with fail
  refine C.mono ?_
  rintro e w1 ⟨rfl, rfl⟩
  clear C
  go_wp2
  go_ret
  exact ⟨rfl, HB.out⟩
set_option maxHeartbeats 4000000 in
set_option maxRecDepth 100000 in
theorem rpr_hex_true_30 (w : World) : Calls Tryz.prog 24 #[.int .i64 30, .bool true] w fun e w' => e = .returned (.string (TX (printL 30 true))) ∧ Below w.heap.size w w' := by
  have hr : len 30 ≠ 0 := by decide
  have C := utf.renc_yes 30 w hr
  have CV := enc_text 30 w
  obtain ⟨W, hW⟩ : ∃ W, w.alloc (utf.encBlock 30) = W := ⟨_, rfl⟩
  have HB : Hid (Below w.heap.size w W) := by unfold Hid; rw [← hW]; exact (Below.refl _ _).alloc (Nat.le_refl _) _
  rw [hW] at C CV
  clear hW
  have hp := utf.enc_pos 30 hr
  have hs := TX_size (enc 30)
  have HT : TX (printL 30 true) = ⟨#[92, 120, 123, 49, 69, 125]⟩ := by decide +kernel
  rw [HT]
  clear HT hr
  go_enter Tryz.func24, Tryz.ntmps24
  go_wp2_with fail
  refine C.mono ?_
  rintro e w1 ⟨rfl, rfl⟩
  clear C
  go_wp2
  go_ret
  exact ⟨rfl, HB.out⟩
set_option maxHeartbeats 4000000 in
set_option maxRecDepth 100000 in
theorem rpr_hex_true_31 (w : World) : Calls Tryz.prog 24 #[.int .i64 31, .bool true] w fun e w' => e = .returned (.string (TX (printL 31 true))) ∧ Below w.heap.size w w' := by
  have hr : len 31 ≠ 0 := by decide
  have C := utf.renc_yes 31 w hr
  have CV := enc_text 31 w
  obtain ⟨W, hW⟩ : ∃ W, w.alloc (utf.encBlock 31) = W := ⟨_, rfl⟩
  have HB : Hid (Below w.heap.size w W) := by unfold Hid; rw [← hW]; exact (Below.refl _ _).alloc (Nat.le_refl _) _
  rw [hW] at C CV
  clear hW
  have hp := utf.enc_pos 31 hr
  have hs := TX_size (enc 31)
  have HT : TX (printL 31 true) = ⟨#[92, 120, 123, 49, 70, 125]⟩ := by decide +kernel
  rw [HT]
  clear HT hr
  go_enter Tryz.func24, Tryz.ntmps24
  go_wp2_with fail
  refine C.mono ?_
  rintro e w1 ⟨rfl, rfl⟩
  clear C
  go_wp2
  go_ret
  exact ⟨rfl, HB.out⟩
set_option maxHeartbeats 4000000 in
set_option maxRecDepth 100000 in
theorem rpr_hex_true_127 (w : World) : Calls Tryz.prog 24 #[.int .i64 127, .bool true] w fun e w' => e = .returned (.string (TX (printL 127 true))) ∧ Below w.heap.size w w' := by
  have hr : len 127 ≠ 0 := by decide
  have C := utf.renc_yes 127 w hr
  have CV := enc_text 127 w
  obtain ⟨W, hW⟩ : ∃ W, w.alloc (utf.encBlock 127) = W := ⟨_, rfl⟩
  have HB : Hid (Below w.heap.size w W) := by unfold Hid; rw [← hW]; exact (Below.refl _ _).alloc (Nat.le_refl _) _
  rw [hW] at C CV
  clear hW
  have hp := utf.enc_pos 127 hr
  have hs := TX_size (enc 127)
  have HT : TX (printL 127 true) = ⟨#[92, 120, 123, 55, 70, 125]⟩ := by decide +kernel
  rw [HT]
  clear HT hr
  go_enter Tryz.func24, Tryz.ntmps24
  go_wp2_with fail
  refine C.mono ?_
  rintro e w1 ⟨rfl, rfl⟩
  clear C
  go_wp2
  go_ret
  exact ⟨rfl, HB.out⟩
end Go.Proofs.YtbdediacfckpcaaGreatDoor.tok
end
