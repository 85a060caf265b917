/- Texts that the proof leans on, one behind the other. -/
import Derived.Test.YtnjomfmdogkhgaaGreatDoorBnd11
import Derived.Deep.QuietTactic
import Derived.BigQuiet
import Derived.Test.YtnjomfmdogkhgaaGreatDoorBnd3
import Derived.Lib.AsciiSet
import Derived.Lib.Builder

section
/- Looking up the file's names; a value alone; kinds and their numbers. -/
set_option linter.unusedVariables false
set_option linter.unusedSimpArgs false
namespace Go.Proofs.YtnjomfmdogkhgaaGreatDoor.nam
open Go.RowKit lin

abbrev Nm (w : World) (b : Nat) : Prop := Mp Tryz.prog 93 ek okk w b 1000 (tab rowsL)
theorem zeroA (w : World) : (zeroValue 90).run Tryz.prog w = .ok (.agg #[.string ⟨#[]⟩, .string ⟨#[]⟩]) w := by kernel_rfl
theorem look_some {w : World} {b : Nat} (h : Nm w b) {k l : List UInt8} {r : R3} (hk : k.length ≤ 281474976710656) (hl : l.length ≤ 281474976710656) (hr : lookL (k, l) = some r) :
    (Instr.lookup 84 (.map (some b)) (.agg #[.string (BA k), .string (BA l)]) true).run Tryz.prog w = .ok (.tuple #[.agg #[.string (BA r.2.1), .string (BA r.2.2)], .bool true]) w := by
  have := h.look keyE Tryz.underlying84 (zeroA w) (x := (BA k, BA l)) ⟨by rw [BA_size]; unfold maxLen; omega, by rw [BA_size]; unfold maxLen; omega⟩
  rw [tab_look, BA_data, BA_data, hr] at this
  exact this
theorem look_none {w : World} {b : Nat} (h : Nm w b) {k l : List UInt8} (hk : k.length ≤ 281474976710656) (hl : l.length ≤ 281474976710656) (hr : lookL (k, l) = none) :
    (Instr.lookup 84 (.map (some b)) (.agg #[.string (BA k), .string (BA l)]) true).run Tryz.prog w = .ok (.tuple #[.agg #[.string ⟨#[]⟩, .string ⟨#[]⟩], .bool false]) w := by
  have := h.look keyE Tryz.underlying84 (zeroA w) (x := (BA k, BA l)) ⟨by rw [BA_size]; unfold maxLen; omega, by rw [BA_size]; unfold maxLen; omega⟩
  rw [tab_look, BA_data, BA_data, hr] at this
  exact this
theorem look_mem {x : List UInt8 × List UInt8} {r : R3} (h : lookL x = some r) : r ∈ rowsL ∧ r.1 = x.1 := by
  have h1 := List.mem_of_find?_eq_some h
  have h2 := List.find?_some h
  unfold hit at h2
  simp only [Bool.and_eq_true, beq_iff_eq] at h2
  exact ⟨h1, h2.1⟩

theorem beqT {k L : List UInt8} (h : k = L) : ((BA k).toList == L) = true := by rw [Lib.toList_data, BA_data, h]; exact beq_self_eq_true _
theorem beqF {k L : List UInt8} (h : ¬ k = L) : ((BA k).toList == L) = false := by rw [beq_eq_false_iff_ne, Lib.toList_data, BA_data]; exact h

def numL (k : List UInt8) : Int := if k = [103, 99] then 1 else if k = [115, 99] then 2 else if k = [98, 105] then 3 else 0
def kindL (n : Int) : List UInt8 := if n = 1 then [103, 99] else if n = 2 then [115, 99] else if n = 3 then [98, 105] else []
theorem number_any (k : List UInt8) (w : World) : Calls Tryz.prog 66 #[.string (BA k)] w fun e w' => e = .returned (.int .i64 (numL k)) ∧ w' = w := by
  by_cases h1 : k = [103, 99]
  · have t1 := beqT h1
    have HE : Hid (numL k = 1) := by unfold Hid numL; rw [if_pos h1]
    clear h1
    go_enter Tryz.func66, Tryz.ntmps66
    go_wp2
    go_ret
    exact ⟨by rw [HE.out]; rfl, rfl⟩
  · have t1 := beqF h1
    by_cases h2 : k = [115, 99]
    · have t2 := beqT h2
      have HE : Hid (numL k = 2) := by unfold Hid numL; rw [if_neg h1, if_pos h2]
      clear h1 h2
      go_enter Tryz.func66, Tryz.ntmps66
      go_wp2
      go_ret
      exact ⟨by rw [HE.out]; rfl, rfl⟩
    · have t2 := beqF h2
      by_cases h3 : k = [98, 105]
      · have t3 := beqT h3
        have HE : Hid (numL k = 3) := by unfold Hid numL; rw [if_neg h1, if_neg h2, if_pos h3]
        clear h1 h2 h3
        go_enter Tryz.func66, Tryz.ntmps66
        go_wp2
        go_ret
        exact ⟨by rw [HE.out]; rfl, rfl⟩
      · have t3 := beqF h3
        have HE : Hid (numL k = 0) := by unfold Hid numL; rw [if_neg h1, if_neg h2, if_neg h3]
        clear h1 h2 h3
        go_enter Tryz.func66, Tryz.ntmps66
        go_wp2
        go_ret
        exact ⟨by rw [HE.out]; rfl, rfl⟩
/-- What a value alone names: its kind's number, its short name, the error. -/
def aloneL (l : List UInt8) : Int × List UInt8 × Int :=
  match lookL ([103, 99], l) with
  | some r => (1, r.2.1, 0)
  | none => match lookL ([98, 105], l) with
    | some r => (3, r.2.1, 0)
    | none => match lookL ([115, 99], l) with
      | some r => (2, r.2.1, 0)
      | none => (0, [], 50)
end Go.Proofs.YtnjomfmdogkhgaaGreatDoor.nam
end

section
/- names.valueAlone: a value whose property is not told. -/
set_option linter.unusedVariables false
set_option linter.unusedSimpArgs false
namespace Go.Proofs.YtnjomfmdogkhgaaGreatDoor.nam
open Go.RowKit lin

theorem alone1 {l : List UInt8} {r : R3} (h : lookL ([103, 99], l) = some r) : aloneL l = (1, r.2.1, 0) := by unfold aloneL; rw [h]
theorem alone2 {l : List UInt8} {r : R3} (h : lookL ([103, 99], l) = none) (h2 : lookL ([98, 105], l) = some r) : aloneL l = (3, r.2.1, 0) := by unfold aloneL; rw [h, h2]
theorem alone3 {l : List UInt8} {r : R3} (h : lookL ([103, 99], l) = none) (h2 : lookL ([98, 105], l) = none) (h3 : lookL ([115, 99], l) = some r) : aloneL l = (2, r.2.1, 0) := by unfold aloneL; rw [h, h2, h3]
theorem alone4 {l : List UInt8} (h : lookL ([103, 99], l) = none) (h2 : lookL ([98, 105], l) = none) (h3 : lookL ([115, 99], l) = none) : aloneL l = (0, [], 50) := by unfold aloneL; rw [h, h2, h3]

/-- The first k kinds have no such value. -/
def noneTo (l : List UInt8) (k : Nat) : Prop := (1 ≤ k → lookL ([103, 99], l) = none) ∧ (2 ≤ k → lookL ([98, 105], l) = none) ∧ (3 ≤ k → lookL ([115, 99], l) = none)
theorem idx0 (w : World) : (Instr.index 134 (.agg #[.string ⟨#[103, 99]⟩, .string ⟨#[98, 105]⟩, .string ⟨#[115, 99]⟩]) (.int .i64 0)).run Tryz.prog w = .ok (.string ⟨#[103, 99]⟩) w := by kernel_rfl
theorem idx1 (w : World) : (Instr.index 134 (.agg #[.string ⟨#[103, 99]⟩, .string ⟨#[98, 105]⟩, .string ⟨#[115, 99]⟩]) (.int .i64 1)).run Tryz.prog w = .ok (.string ⟨#[98, 105]⟩) w := by kernel_rfl
theorem idx2 (w : World) : (Instr.index 134 (.agg #[.string ⟨#[103, 99]⟩, .string ⟨#[98, 105]⟩, .string ⟨#[115, 99]⟩]) (.int .i64 2)).run Tryz.prog w = .ok (.string ⟨#[115, 99]⟩) w := by kernel_rfl

set_option maxHeartbeats 1500000 in
set_option maxRecDepth 100000 in
theorem alone_any (b : Nat) (l : List UInt8) (w : World) (h : Nm w b) (hl : l.length ≤ 281474976710656) :
    Calls Tryz.prog 64 #[.map (some b), .string (BA l)] w fun e w' => e = .returned (.tuple #[.int .i64 (aloneL l).1, .string (BA (aloneL l).2.1), .int .i64 (aloneL l).2.2]) ∧ Below w.heap.size w w' := by
  have HM : Hid (Nm w b) := h
  have HLS : Hid (∀ W, Below w.heap.size w W → ∀ k r, k.length = 2 → lookL (k, l) = some r → (Instr.lookup 84 (.map (some b)) (.agg #[.string (BA k), .string (BA l)]) true).run Tryz.prog W = .ok (.tuple #[.agg #[.string (BA r.2.1), .string (BA r.2.2)], .bool true]) W) := fun W hb k r hk hr => look_some (h.below hb) (by omega) hl hr
  have HLN : Hid (∀ W, Below w.heap.size w W → ∀ k, k.length = 2 → lookL (k, l) = none → (Instr.lookup 84 (.map (some b)) (.agg #[.string (BA k), .string (BA l)]) true).run Tryz.prog W = .ok (.tuple #[.agg #[.string ⟨#[]⟩, .string ⟨#[]⟩], .bool false]) W) := fun W hb k hk hr => look_none (h.below hb) (by omega) hl hr
  have N1 : Hid (∀ W, Calls Tryz.prog 66 #[.string ⟨#[103, 99]⟩] W fun e w' => e = .returned (.int .i64 1) ∧ w' = W) := fun W => number_any [103, 99] W
  have N2 : Hid (∀ W, Calls Tryz.prog 66 #[.string ⟨#[98, 105]⟩] W fun e w' => e = .returned (.int .i64 3) ∧ w' = W) := fun W => number_any [98, 105] W
  have N3 : Hid (∀ W, Calls Tryz.prog 66 #[.string ⟨#[115, 99]⟩] W fun e w' => e = .returned (.int .i64 2) ∧ w' = W) := fun W => number_any [115, 99] W
  clear h
  go_enter Tryz.func64, Tryz.ntmps64
  go_wp2
  go_loopw [12] (fun i wr => ∃ k : Nat, k ≤ 3 ∧ i = .int .i64 k ∧ Hid (noneTo l k) ∧ Below w.heap.size w wr) (fun i _ => 3 - (RowKit.intOf i).toNat)
  case atStart => exact ⟨0, by omega, rfl, ⟨fun h => absurd h (by omega), fun h => absurd h (by omega), fun h => absurd h (by omega)⟩, Below.refl _ _⟩
  case round =>
    obtain ⟨k, hk, rfl, HP, hbel⟩ := hrel
    have hbs := hbel.size
    rcases (show k = 0 ∨ k = 1 ∨ k = 2 ∨ k = 3 by omega) with rfl | rfl | rfl | rfl
    · cases hlk : lookL ([103, 99], l) with
      | some r =>
        have LK : (Instr.lookup 84 (.map (some b)) (.agg #[.string ⟨#[103, 99]⟩, .string (BA l)]) true).run Tryz.prog wr = .ok (.tuple #[.agg #[.string (BA r.2.1), .string (BA r.2.2)], .bool true]) wr := HLS.out wr hbel [103, 99] r rfl hlk
        have HE : Hid (aloneL l = (1, r.2.1, 0)) := alone1 hlk
        clear hlk
        have IX := idx0 wr
        go_wp2
        go_quiet (exact (N1.out _).mono fun _ _ h => ⟨h.1, _, h.2⟩)
        go_wp2
        go_ret3
        exact ⟨by rw [HE.out]; rfl, have q := hbel.alloc hbs _; ⟨q.os, q.tape, q.output, q.size, q.block⟩⟩
      | none =>
        have LK : (Instr.lookup 84 (.map (some b)) (.agg #[.string ⟨#[103, 99]⟩, .string (BA l)]) true).run Tryz.prog wr = .ok (.tuple #[.agg #[.string ⟨#[]⟩, .string ⟨#[]⟩], .bool false]) wr := HLN.out wr hbel [103, 99] rfl hlk
        have HP2 : Hid (noneTo l 1) := ⟨fun _ => hlk, fun h => absurd h (by omega), fun h => absurd h (by omega)⟩
        clear hlk HP
        have IX := idx0 wr
        go_wp2
        exact ⟨⟨1, by omega, rfl, HP2, hbel.alloc hbs _⟩, by simp [intOf]⟩
    · cases hlk : lookL ([98, 105], l) with
      | some r =>
        have LK : (Instr.lookup 84 (.map (some b)) (.agg #[.string ⟨#[98, 105]⟩, .string (BA l)]) true).run Tryz.prog wr = .ok (.tuple #[.agg #[.string (BA r.2.1), .string (BA r.2.2)], .bool true]) wr := HLS.out wr hbel [98, 105] r rfl hlk
        have HE : Hid (aloneL l = (3, r.2.1, 0)) := alone2 (HP.out.1 (by omega)) hlk
        clear hlk
        have IX := idx1 wr
        go_wp2
        go_quiet (exact (N2.out _).mono fun _ _ h => ⟨h.1, _, h.2⟩)
        go_wp2
        go_ret3
        exact ⟨by rw [HE.out]; rfl, have q := hbel.alloc hbs _; ⟨q.os, q.tape, q.output, q.size, q.block⟩⟩
      | none =>
        have LK : (Instr.lookup 84 (.map (some b)) (.agg #[.string ⟨#[98, 105]⟩, .string (BA l)]) true).run Tryz.prog wr = .ok (.tuple #[.agg #[.string ⟨#[]⟩, .string ⟨#[]⟩], .bool false]) wr := HLN.out wr hbel [98, 105] rfl hlk
        have HP2 : Hid (noneTo l 2) := ⟨fun _ => HP.out.1 (by omega), fun _ => hlk, fun h => absurd h (by omega)⟩
        clear hlk HP
        have IX := idx1 wr
        go_wp2
        exact ⟨⟨2, by omega, rfl, HP2, hbel.alloc hbs _⟩, by simp [intOf]⟩
    · cases hlk : lookL ([115, 99], l) with
      | some r =>
        have LK : (Instr.lookup 84 (.map (some b)) (.agg #[.string ⟨#[115, 99]⟩, .string (BA l)]) true).run Tryz.prog wr = .ok (.tuple #[.agg #[.string (BA r.2.1), .string (BA r.2.2)], .bool true]) wr := HLS.out wr hbel [115, 99] r rfl hlk
        have HE : Hid (aloneL l = (2, r.2.1, 0)) := alone3 (HP.out.1 (by omega)) (HP.out.2.1 (by omega)) hlk
        clear hlk
        have IX := idx2 wr
        go_wp2
        go_quiet (exact (N3.out _).mono fun _ _ h => ⟨h.1, _, h.2⟩)
        go_wp2
        go_ret3
        exact ⟨by rw [HE.out]; rfl, have q := hbel.alloc hbs _; ⟨q.os, q.tape, q.output, q.size, q.block⟩⟩
      | none =>
        have LK : (Instr.lookup 84 (.map (some b)) (.agg #[.string ⟨#[115, 99]⟩, .string (BA l)]) true).run Tryz.prog wr = .ok (.tuple #[.agg #[.string ⟨#[]⟩, .string ⟨#[]⟩], .bool false]) wr := HLN.out wr hbel [115, 99] rfl hlk
        have HP2 : Hid (noneTo l 3) := ⟨fun _ => HP.out.1 (by omega), fun _ => HP.out.2.1 (by omega), fun _ => hlk⟩
        clear hlk HP
        have IX := idx2 wr
        go_wp2
        exact ⟨⟨3, by omega, rfl, HP2, hbel.alloc hbs _⟩, by simp [intOf]⟩
    · have HE : Hid (aloneL l = (0, [], 50)) := alone4 (HP.out.1 (by omega)) (HP.out.2.1 (by omega)) (HP.out.2.2 (by omega))
      go_wp2
      go_ret3
      exact ⟨by rw [HE.out]; rfl, hbel⟩
end Go.Proofs.YtnjomfmdogkhgaaGreatDoor.nam
end

section
/- What strings.IndexRune answers of a rune in the text of an equals sign and a colon. -/
set_option linter.unusedVariables false
set_option linter.unusedSimpArgs false
namespace Go.Proofs.YtnjomfmdogkhgaaGreatDoor.nam
open Go.RowKit lin

theorem byte_k (s : ByteArray) (c : Int) (w : World) :
    Calls Tryz.prog 124 #[.string s, .int .u8 c] w fun e w' => e = .returned (.int .i64 (Lib.indexByte s.data.toList c.toNat.toUInt8)) ∧ w' = w :=
  Any.strings_IndexByte { Tryz.lays153 with } s c w
theorem index_set : ∀ c : Fin 128, (0 ≤ Lib.indexByte [61, 58] (c.val.toUInt8) ↔ (c.val = 61 ∨ c.val = 58)) := by decide +kernel

set_option maxHeartbeats 1000000 in
set_option maxRecDepth 100000 in
theorem rune_low (c : Nat) (w : World) (hc : c < 128) :
    Calls Tryz.prog 89 #[.string ⟨#[61, 58]⟩, .int .i32 c] w fun e w' => ∃ k, e = .returned (.int .i64 k) ∧ (0 ≤ k ↔ (c = 61 ∨ c = 58)) ∧ Below w.heap.size w w' := by
  have BK := byte_k ⟨#[61, 58]⟩ c w
  have HI := index_set ⟨c, hc⟩
  have BK2 : Calls Tryz.prog 124 #[.string ⟨#[61, 58]⟩, .int .u8 c] w fun e w' => e = .returned (.int .i64 (Lib.indexByte [61, 58] c.toUInt8)) ∧ w' = w := BK
  clear BK
  simp only [] at HI
  generalize Lib.indexByte [61, 58] c.toUInt8 = k at *
  have HI2 : Hid (0 ≤ k ↔ (c = 61 ∨ c = 58)) := HI
  clear HI
  have t1 : (0 : Int) ≤ (c : Int) := by omega
  have t2 : (c : Int) < 128 := by omega
  go_enter Tryz.func89, Tryz.ntmps89
  go_wp2_with fail
  refine BK2.mono ?_
  rintro e w2 ⟨rfl, rfl⟩
  go_wp2
  all_goals try rw [Exit.noGoto_ret]
  go_ret
  exact ⟨_, rfl, HI2.out, Below.refl _ _⟩

theorem valid_any (c : Nat) (w : World) (hm : c ≤ 1114111) (hv : c < 55296 ∨ 57343 < c) :
    Calls Tryz.prog 125 #[.int .i32 c] w fun e w' => e = .returned (.bool true) ∧ w' = w := by
  have t1 : (0 : Int) ≤ (c : Int) := by omega
  rcases hv with hv | hv
  · have t2 : (c : Int) < 55296 := by omega
    go_enter Tryz.func125, Tryz.ntmps125
    go_wp2
    go_ret
    exact ⟨rfl, rfl⟩
  · have t2 : ¬ (c : Int) < 55296 := by omega
    have t3 : (57343 : Int) < (c : Int) := by omega
    have t4 : (c : Int) ≤ 1114111 := by omega
    go_enter Tryz.func125, Tryz.ntmps125
    go_wp2
    go_ret
    exact ⟨rfl, rfl⟩
/-- The bytes of a rune of several bytes. -/
theorem enc_facts (c : Nat) (hc : 128 ≤ c) (hm : c ≤ 1114111) (hv : c < 55296 ∨ 57343 < c) :
    ∃ n, (n = 1 ∨ n = 2 ∨ n = 3) ∧ ∃ h : (Utf8.encode (c : Int)).size = n + 1, 128 ≤ ((Utf8.encode (c : Int))[n]'(by omega)).toNat := by
  have hval : Utf8.valid (c : Int) = true := by
    unfold Utf8.valid
    simp
    omega
  have fin : ∀ (E : ByteArray) (l : List UInt8), E = BA (l ++ [UInt8.ofNat (128 + c % 64)]) → (l.length = 1 ∨ l.length = 2 ∨ l.length = 3) → ∃ n, (n = 1 ∨ n = 2 ∨ n = 3) ∧ ∃ h : E.size = n + 1, 128 ≤ (E[n]'(by omega)).toNat := by
    rintro E l rfl hl
    have hz : (BA (l ++ [UInt8.ofNat (128 + c % 64)])).size = l.length + 1 := by rw [BA_size, List.length_append]; rfl
    refine ⟨l.length, hl, hz, ?_⟩
    show 128 ≤ ((l ++ [UInt8.ofNat (128 + c % 64)]).toArray[l.length]'(by simp)).toNat
    rw [List.getElem_toArray, List.getElem_append_right (Nat.le_refl _)]
    simp only [Nat.sub_self, List.getElem_cons_zero]
    rw [UInt8.toNat_ofNat']
    omega
  rcases Nat.lt_or_ge c 2048 with h1 | h1
  · refine fin _ [UInt8.ofNat (192 + c / 64)] ?_ (.inl rfl)
    unfold Utf8.encode
    simp only [hval, if_true, Int.toNat_natCast]
    rw [if_neg (by omega), if_pos (by omega)]
    rfl
  · rcases Nat.lt_or_ge c 65536 with h2 | h2
    · refine fin _ [UInt8.ofNat (224 + c / 4096), UInt8.ofNat (128 + c / 64 % 64)] ?_ (.inr (.inl rfl))
      unfold Utf8.encode
      simp only [hval, if_true, Int.toNat_natCast]
      rw [if_neg (by omega), if_neg (by omega), if_pos (by omega)]
      rfl
    · refine fin _ [UInt8.ofNat (240 + c / 262144), UInt8.ofNat (128 + c / 4096 % 64), UInt8.ofNat (128 + c / 64 % 64)] ?_ (.inr (.inr rfl))
      unfold Utf8.encode
      simp only [hval, if_true, Int.toNat_natCast]
      rw [if_neg (by omega), if_neg (by omega), if_neg (by omega)]
      rfl

theorem none_nil : ∀ y : Fin 256, 128 ≤ y.val → Lib.indexByte [] y.val.toUInt8 = -1 := by decide +kernel

set_option maxHeartbeats 1000000 in
set_option maxRecDepth 100000 in
theorem rune_high (c : Nat) (w : World) (hc : 128 ≤ c) (hm : c ≤ 1114111) (h3 : c ≠ 65533) (hv : c < 55296 ∨ 57343 < c) :
    Calls Tryz.prog 89 #[.string ⟨#[61, 58]⟩, .int .i32 c] w fun e w' => e = .returned (.int .i64 (-1)) ∧ Below w.heap.size w w' := by
  have t1 : (0 : Int) ≤ (c : Int) := by omega
  have t2 : ¬ (c : Int) < 128 := by omega
  have t3 : ((c : Int) == 65533) = false := by rw [beq_eq_false_iff_ne]; omega
  obtain ⟨E, hE, n, hn, hsz, hby⟩ : ∃ E, Utf8.encode (c : Int) = E ∧ ∃ n, (n = 1 ∨ n = 2 ∨ n = 3) ∧ ∃ h : E.size = n + 1, 128 ≤ (E[n]'(by omega)).toNat := ⟨_, rfl, enc_facts c hc hm hv⟩
  have VA := valid_any c w hm hv
  clear hv
  go_enter Tryz.func89, Tryz.ntmps89
  go_wp2_with fail
  refine VA.mono ?_
  rintro e w2 ⟨rfl, rfl⟩
  clear VA
  rcases hn with rfl | rfl | rfl
  · have hlt : (E[1]'(by omega)).toNat < 256 := UInt8.toNat_lt _
    generalize hy : (E[1]'(by omega)).toNat = y at *
    have BK : ∀ W, Calls Tryz.prog 124 #[.string (ByteArray.extract ⟨#[61, 58]⟩ 2 2), .int .u8 y] W fun e w' => e = .returned (.int .i64 (-1)) ∧ w' = W := by
      intro W
      refine (byte_k _ _ _).mono ?_
      rintro e w' ⟨rfl, rfl⟩
      exact ⟨by rw [show (ByteArray.extract ⟨#[61, 58]⟩ 2 2).data.toList = [] from by decide +kernel, Int.toNat_natCast, none_nil ⟨y, hlt⟩ hby], rfl⟩
    have q1 : ((58 : Int) == (y : Int)) = false := by rw [beq_eq_false_iff_ne]; omega
    have q2 : ((58 : Int) != (y : Int)) = true := by simp; omega
    have HBK : Hid (∀ W, Calls Tryz.prog 124 #[.string (ByteArray.extract ⟨#[61, 58]⟩ 2 2), .int .u8 y] W fun e w' => e = .returned (.int .i64 (-1)) ∧ w' = W) := BK
    have k1 : ((⟨#[61, 58]⟩ : ByteArray)[1]'(by decide)).toNat = 58 := rfl
    have k2 : IntKind.i64.wrap 2 = 2 := by kernel_rfl
    clear hby hlt BK
    go_wp2
    go_step3
    go_wp2
    refine wp_loop_rounds 1 ?_
    rw [rounds_succ]
    go_wp2_with fail
    go_step3
    go_wp2_with fail
    go_quiet (fail)
    go_wp2_with fail
    go_quiet (exact (HBK.out _).mono fun _ _ h => ⟨h.1, _, h.2⟩)
    go_wp2
    rw [Exit.noGoto_ret]
    go_wp2
    try rw [Exit.noGoto_ret]
    try go_wp2
    go_ret
    exact ⟨rfl, ⟨rfl, rfl, rfl, Nat.le_refl _, fun _ _ => rfl⟩⟩
  · go_wp2
    go_step3
    go_wp2
    refine wp_loop_rounds 1 ?_
    rw [rounds_succ]
    go_wp2
    rw [Exit.noGoto_ret]
    go_ret
    exact ⟨rfl, Below.refl _ _⟩
  · go_wp2
    go_step3
    go_wp2
    refine wp_loop_rounds 1 ?_
    rw [rounds_succ]
    go_wp2
    rw [Exit.noGoto_ret]
    go_ret
    exact ⟨rfl, Below.refl _ _⟩
end Go.Proofs.YtnjomfmdogkhgaaGreatDoor.nam
end

section
/- What strings.IndexAny answers of a text and the set of an equals sign and a colon: the first place of one of both. -/
set_option linter.unusedVariables false
set_option linter.unusedSimpArgs false
namespace Go.Proofs.YtnjomfmdogkhgaaGreatDoor.nam
open Go.RowKit lin

/-- Whether one of both stands at a place; the first such place. -/
def mk (s : ByteArray) (j : Nat) : Prop := at8 s j = 61 ∨ at8 s j = 58
def markI (s : ByteArray) : Int := Lib.indexAny s.data.toList [61, 58]
theorem mk_iff (s : ByteArray) (j : Nat) (h : j < s.size) : mk s j ↔ ([61, 58] : List UInt8).contains (s[j]'h) = true := by
  unfold mk
  rw [at8_eq s j h]
  have e : ∀ n : Nat, n < 256 → (((s[j]'h).toNat : Int) = n ↔ s[j]'h = UInt8.ofNat n) := fun n hn => by rw [u8_eq _ n hn]; omega
  rw [show (61 : Int) = ((61 : Nat) : Int) from rfl, show (58 : Int) = ((58 : Nat) : Int) from rfl, e 61 (by decide), e 58 (by decide)]
  simp
theorem noAny_of (s : ByteArray) (p : Nat) (h : ∀ j, j < p → j < s.size → ¬ mk s j) : Lib.NoAny s.data.toList [61, 58] p := fun j b hj hb => by
  have hl : j < s.data.toList.length := (List.getElem?_eq_some_iff.1 hb).1
  have hl' : j < s.size := by simpa using hl
  have hb2 : s[j]'hl' = b := (List.getElem?_eq_some_iff.1 hb).2
  cases hc : ([61, 58] : List UInt8).contains b with
  | false => rfl
  | true => exact absurd ((mk_iff s j hl').2 (by rw [hb2]; exact hc)) (h j hj hl')
theorem mark_hit (s : ByteArray) (p : Nat) (hp : p < s.size) (h : ∀ j, j < p → j < s.size → ¬ mk s j) (hm : mk s p) : markI s = p :=
  Lib.indexAny_hit (noAny_of s p h) (List.getElem?_eq_getElem (by simpa using hp)) ((mk_iff s p hp).1 hm)
theorem mark_none (s : ByteArray) (h : ∀ j, j < s.size → ¬ mk s j) : markI s = -1 :=
  Lib.indexAny_none (by rw [show s.data.toList.length = s.size from by simp]; exact noAny_of s s.size (fun j hj _ => h j hj))
/-- It is the first one, or there is none. -/
theorem mark_cases (s : ByteArray) : (markI s = -1 ∧ ∀ j, j < s.size → ¬ mk s j) ∨ ∃ p : Nat, markI s = p ∧ p < s.size ∧ mk s p ∧ ∀ j, j < p → j < s.size → ¬ mk s j := by
  have step : ∀ k, k ≤ s.size → (∀ j, j < k → j < s.size → ¬ mk s j) ∨ ∃ p : Nat, p < s.size ∧ mk s p ∧ ∀ j, j < p → j < s.size → ¬ mk s j := by
    intro k
    induction k with
    | zero => intro _; exact .inl (fun j h => absurd h (Nat.not_lt_zero _))
    | succ k ih =>
      intro hk
      rcases ih (by omega) with h | h
      · by_cases hm : mk s k
        · exact .inr ⟨k, by omega, hm, h⟩
        · refine .inl (fun j hj hs => ?_)
          rcases Nat.lt_or_ge j k with h' | h'
          · exact h j h' hs
          · obtain rfl : j = k := by omega
            exact hm
      · exact .inr h
  rcases step s.size (Nat.le_refl _) with h | ⟨p, h1, h2, h3⟩
  · exact .inl ⟨mark_none s (fun j hj => h j hj hj), fun j hj => h j hj hj⟩
  · exact .inr ⟨p, mark_hit s p h1 h3 h2, h1, h2, h3⟩

theorem setB_size : ByteArray.size ⟨#[61, 58]⟩ = 2 := rfl
theorem setB_low (p : Nat) (hp : p < ByteArray.size ⟨#[61, 58]⟩) : ((⟨#[61, 58]⟩ : ByteArray)[p]'hp).toNat < 128 := by
  have h : ∀ p : Fin 2, ((⟨#[61, 58]⟩ : ByteArray)[p.val]'(by rw [setB_size]; exact p.isLt)).toNat < 128 := by decide +kernel
  exact h ⟨p, by rw [setB_size] at hp; exact hp⟩

set_option maxHeartbeats 1000000 in
set_option maxRecDepth 100000 in
theorem rune_err (w : World) :
    Calls Tryz.prog 89 #[.string ⟨#[61, 58]⟩, .int .i32 65533] w fun e w' => e = .returned (.int .i64 (-1)) ∧ Below w.heap.size w w' := by
  go_enter Tryz.func89, Tryz.ntmps89
  go_wp2
  go_loopg [] 2 (fun k wr => ∃ p : Nat, k = 2 - p ∧ Hid (wr.heap[w.heap.size]? = some (.stringIter ⟨#[61, 58]⟩ p)) ∧ Below w.heap.size w wr)
  case atStart => exact ⟨0, rfl, World.iter_heap w _ 0, (Below.refl _ _).alloc (Nat.le_refl _) _⟩
  case round =>
    obtain ⟨p, hgk, HIT, hbel⟩ := hrel
    have HGK : Hid (gk = 2 - p) := hgk
    clear hgk
    by_cases hp : p < ByteArray.size ⟨#[61, 58]⟩
    · have hlow := setB_low p hp
      have hp3 : p < 2 := hp
      have hit2 := Lib.iterAt_heap wr w.heap.size ⟨#[61, 58]⟩ p (p + 1) HIT.out
      have hb2 := Lib.below_iterAt hbel (k := w.heap.size) (Nat.le_refl _) ⟨#[61, 58]⟩ (p + 1)
      have hnx := fun ty => Lib.run_next_any_at (P := Tryz.prog) wr w.heap.size ⟨#[61, 58]⟩ p ty HIT.out hp
      rw [decode_ascii _ p hp hlow] at hnx
      have HT2 : Hid ((wr.iterAt w.heap.size ⟨#[61, 58]⟩ (p + 1)).heap[w.heap.size]? = some (.stringIter ⟨#[61, 58]⟩ (p + 1))) := hit2
      have t1 : ((((⟨#[61, 58]⟩ : ByteArray)[p]'hp).toNat : Int) == 65533) = false := by rw [beq_eq_false_iff_ne]; omega
      clear hit2 HIT hbel
      generalize hr : ((⟨#[61, 58]⟩ : ByteArray)[p]'hp).toNat = r at *
      clear hr
      generalize hW : wr.iterAt w.heap.size ⟨#[61, 58]⟩ (p + 1) = W at *
      go_wp2
      go_roundg (2 - (p + 1))
      case measure => have := HGK.out; omega
      case rel => exact ⟨p + 1, rfl, HT2, hb2⟩
    · have hnx := fun ty => Lib.run_next_end_at (P := Tryz.prog) wr w.heap.size ⟨#[61, 58]⟩ p ty HIT.out hp
      clear HIT
      go_wp2
      go_ret
      exact ⟨rfl, hbel⟩

theorem decode_ok (s : ByteArray) (p : Nat) (hp : p < s.size) : (Utf8.decode s p).1 ≤ 1114111 ∧ ((Utf8.decode s p).1 < 55296 ∨ 57343 < (Utf8.decode s p).1) := by
  have hb : ∀ x : UInt8, x.toNat < 256 := fun x => x.toNat_lt
  have v : ∀ x : Nat, Utf8.valid (x : Int) = true → x ≤ 1114111 ∧ (x < 55296 ∨ 57343 < x) := by
    intro x h
    unfold Utf8.valid at h
    simp at h
    omega
  generalize hd : Utf8.decode s p = d
  unfold Utf8.decode at hd
  simp only [] at hd
  have e : Utf8.runeError = 65533 := rfl
  have h0 := hb (s.get! (p + 0))
  have h1 := hb (s.get! (p + 1))
  repeat' split at hd
  all_goals subst hd
  all_goals simp only [Bool.and_eq_true, decide_eq_true_eq] at *
  all_goals first | omega | (rename_i q; exact v _ q.2)

/-- What strings.IndexRune answers of any rune that a text holds. -/
theorem rune_any (c : Nat) (w : World) (hm : c ≤ 1114111) (hv : c < 55296 ∨ 57343 < c) :
    Calls Tryz.prog 89 #[.string ⟨#[61, 58]⟩, .int .i32 c] w fun e w' => ∃ k, e = .returned (.int .i64 k) ∧ (0 ≤ k ↔ (c = 61 ∨ c = 58)) ∧ Below w.heap.size w w' := by
  rcases Nat.lt_or_ge c 128 with h | h
  · exact rune_low c w h
  · by_cases h3 : c = 65533
    · subst h3
      refine (rune_err w).mono ?_
      rintro e w' ⟨rfl, hb⟩
      exact ⟨-1, rfl, ⟨fun h => by omega, fun h => by omega⟩, hb⟩
    · refine (rune_high c w h hm h3 hv).mono ?_
      rintro e w' ⟨rfl, hb⟩
      exact ⟨-1, rfl, ⟨fun h => by omega, fun h => by omega⟩, hb⟩

set_option maxHeartbeats 1000000 in
set_option maxRecDepth 100000 in
theorem any_short (s : ByteArray) (w : World) (h8 : s.size ≤ 8) :
    Calls Tryz.prog 63 #[.string s, .string ⟨#[61, 58]⟩] w fun e w' => e = .returned (.int .i64 (markI s)) ∧ Below w.heap.size w w' := by
  have t8 : ¬ (8 : Int) < (s.size : Int) := by omega
  go_enter Tryz.func63, Tryz.ntmps63
  go_wp2
  go_loopg [] s.size (fun k wr => ∃ p : Nat, k = s.size - p ∧ Hid (∀ j, j < p → j < s.size → ¬ mk s j) ∧ Hid (wr.heap[w.heap.size]? = some (.stringIter s p)) ∧ Below w.heap.size w wr)
  case atStart => exact ⟨0, rfl, fun j h => absurd h (Nat.not_lt_zero _), World.iter_heap w _ 0, (Below.refl _ _).alloc (Nat.le_refl _) _⟩
  case round =>
    obtain ⟨p, hgk, HNB, HIT, hbel⟩ := hrel
    have HGK : Hid (gk = s.size - p) := hgk
    clear hgk
    by_cases hp : p < s.size
    · have he := at8_eq s p hp
      have hq1 : 1 ≤ (Utf8.decode s p).2 := by
        by_cases ha : (s[p]'hp).toNat < 128
        · rw [decode_ascii s p hp ha]; exact Nat.le_refl _
        · exact (decode_high s p hp (by omega)).2
      have hit2 := Lib.iterAt_heap wr w.heap.size s p (p + (Utf8.decode s p).2) HIT.out
      have hb2 := Lib.below_iterAt hbel (k := w.heap.size) (Nat.le_refl _) s (p + (Utf8.decode s p).2)
      have hnx := fun ty => Lib.run_next_any_at (P := Tryz.prog) wr w.heap.size s p ty HIT.out hp
      have HT2 : Hid ((wr.iterAt w.heap.size s (p + (Utf8.decode s p).2)).heap[w.heap.size]? = some (.stringIter s (p + (Utf8.decode s p).2))) := hit2
      obtain ⟨hm1, hm2⟩ := decode_ok s p hp
      have HHIT : Hid (((Utf8.decode s p).1 = 61 ∨ (Utf8.decode s p).1 = 58) → markI s = p) := by
        intro h
        have ha : (s[p]'hp).toNat < 128 := by
          rcases Nat.lt_or_ge (s[p]'hp).toNat 128 with h' | h'
          · exact h'
          · have := (decode_high s p hp h').1; omega
        rw [decode_ascii s p hp ha] at h
        exact mark_hit s p hp HNB.out (by unfold mk; rw [he]; simp only [] at h; omega)
      have HMISS : Hid (¬ ((Utf8.decode s p).1 = 61 ∨ (Utf8.decode s p).1 = 58) → ∀ j, j < p + (Utf8.decode s p).2 → j < s.size → ¬ mk s j) := by
        intro h j h1 h2
        rcases Nat.lt_or_ge j p with h3 | h3
        · exact HNB.out j h3 h2
        · by_cases ha : (s[p]'hp).toNat < 128
          · rw [decode_ascii s p hp ha] at h h1
            simp only [] at h h1
            obtain rfl : j = p := by omega
            unfold mk; rw [he]; omega
          · rcases Nat.eq_or_lt_of_le h3 with rfl | h4
            · unfold mk; rw [he]; omega
            · have := decode_tail s p j h4 h1
              have e := get_at8 s j h2
              unfold mk
              omega
      have RU := fun W => rune_any (Utf8.decode s p).1 W hm1 hm2
      clear hit2 HIT hbel he HNB
      generalize hr : (Utf8.decode s p).1 = r at *
      generalize hqq : (Utf8.decode s p).2 = q at *
      clear hr hqq
      generalize hW : wr.iterAt w.heap.size s (p + q) = W at *
      clear hW
      go_wp2_with fail
      refine (RU W).mono ?_
      rintro e w3 ⟨k, rfl, hk, b3⟩
      clear RU
      have b13 := hb2.trans (b3.mono hb2.size)
      have HT3 : Hid (w3.heap[w.heap.size]? = some (.stringIter s (p + q))) := (b3.block _ (Array.getElem?_eq_some_iff.1 HT2.out).1).trans HT2.out
      have HK : Hid (0 ≤ k ↔ (r = 61 ∨ r = 58)) := hk
      clear hk HT2
      by_cases hk0 : (0 : Int) ≤ k
      · have HB : Hid (markI s = p) := HHIT.out (HK.out.1 hk0)
        clear HHIT HMISS HK
        go_wp2
        try rw [Exit.noGoto_ret]
        go_ret
        exact ⟨by rw [HB.out]; rfl, b13⟩
      · have HM := HMISS.out (fun h => hk0 (HK.out.2 h))
        have HM2 : Hid (∀ j, j < p + q → j < s.size → ¬ mk s j) := HM
        clear HHIT HMISS HK HM
        go_wp2
        go_roundg (s.size - (p + q))
        case measure => have := HGK.out; omega
        case rel => exact ⟨p + q, rfl, HM2, HT3, b13⟩
    · have hnx := fun ty => Lib.run_next_end_at (P := Tryz.prog) wr w.heap.size s p ty HIT.out hp
      have HB : Hid (markI s = -1) := mark_none s (fun j hj => HNB.out j (by omega) hj)
      clear HIT HNB
      go_wp2
      try rw [Exit.noGoto_ret]
      go_ret
      exact ⟨by rw [HB.out]; rfl, hbel⟩

theorem info256 : (Tryz.prog.info? 130).map (fun i => (i.zero, i.size)) = some (some (.agg (Array.replicate 256 (.bool false))), 256) := by kernel_rfl
theorem size256 : (Tryz.prog.info? 130).map (·.size) = some 256 := by kernel_rfl

set_option maxHeartbeats 8000000 in
set_option maxRecDepth 1000000 in
theorem any_long (s : ByteArray) (w : World) (h8 : 8 < s.size) (hs : s.size ≤ 140737488355328) :
    Calls Tryz.prog 63 #[.string s, .string ⟨#[61, 58]⟩] w fun e w' => e = .returned (.int .i64 (markI s)) ∧ Below w.heap.size w w' := by
  have MS := Tryz.strings_makeASCIISet (zero_of_info info256).1 ⟨#[61, 58]⟩ w (by decide) (ascii_of_all (by decide))
  have t8 : (8 : Int) < (s.size : Int) := by omega
  have SH := Tryz.strings_shouldUseASCIISet (s.size : Int) w
  obtain ⟨C, hC⟩ : ∃ C, Lib.setCells (⟨#[61, 58]⟩ : ByteArray).data.toList = C := ⟨_, rfl⟩
  have SC : (storeCells ⟨w.heap.size + 1, 0, none⟩ C.toList 0).run Tryz.prog ((w.alloc (.cells C 130)).alloc (.cells (Array.replicate 256 (.bool false)) 130)) = .ok () ((w.alloc (.cells C 130)).alloc (.cells C 130)) := by
    have := run_storeCells_new (P := Tryz.prog) (w.alloc (.cells C 130)) 130 (Array.replicate 256 (.bool false)) C (by rw [← hC, Lib.setCells_size]; exact size256) (by rw [← hC, Lib.setCells_size, Array.size_replicate]) (by rw [← hC]; exact Lib.setCells_one _)
    simpa using this
  rw [show Array.replicate 256 (Value.bool false) = Tryz.zeroCells130 from by kernel_rfl] at SC
  have HCE : Hid (∀ (i : Nat) (h : i < s.size), ((w.alloc (.cells C 130)).alloc (.cells C 130)).cell? ⟨w.heap.size + 1, (s[i]'h).toNat, none⟩ = some (.bool (([61, 58] : List UInt8).contains (s[i]'h)))) := fun i h => by
    rw [World.cell?_alloc_at _ _ _ _ (by simp), ← hC, Lib.setCells_at]
  have HBE : Hid (Below w.heap.size w ((w.alloc (.cells C 130)).alloc (.cells C 130))) := ((Below.refl _ w).alloc (Nat.le_refl _) _).alloc (by simp) _
  have HMK : Hid (∀ (i : Nat) (h : i < s.size), mk s i ↔ ([61, 58] : List UInt8).contains (s[i]'h) = true) := mk_iff s
  have hcz : C.size = 256 := by rw [← hC]; exact Lib.setCells_size _
  rw [hC] at MS
  clear hC
  go_enter Tryz.func63, Tryz.ntmps63
  go_wp2_with fail
  refine SH.mono ?_
  rintro e w1 ⟨rfl, hw1⟩
  rw [hw1]
  clear hw1
  go_wp2_with fail
  refine MS.mono ?_
  rintro e w2 ⟨rfl, hw2⟩
  rw [hw2]
  clear hw2
  go_wp2
  clear MS SC SH
  generalize hW : (w.alloc (.cells C 130)).alloc (.cells C 130) = W at *
  go_loopw [8] (fun i wz => ∃ p : Nat, p ≤ s.size ∧ i = .int .i64 p ∧ Hid (∀ j, j < p → j < s.size → ¬ mk s j) ∧ wz = W) (fun i _ => s.size - (RowKit.intOf i).toNat)
  case atStart => exact ⟨0, Nat.zero_le _, rfl, fun j h => absurd h (Nat.not_lt_zero _), rfl⟩
  case round =>
    obtain ⟨p, hp, rfl, HN, hz⟩ := hrel
    subst hz
    by_cases hlt : p < s.size
    · have hlt' : (p : Int) < (s.size : Int) := by omega
      have hm := HMK.out p hlt
      have hcell := HCE.out p hlt
      obtain ⟨x, hx⟩ : ∃ x : UInt8, s[p]'hlt = x := ⟨_, rfl⟩
      rw [hx] at hm hcell
      have hr0 : ((s[p]'hlt).toNat : Int) = (x.toNat : Int) := by rw [hx]
      clear hx
      cases hin : ([61, 58] : List UInt8).contains x with
      | false =>
        rw [hin] at hm hcell
        have HN2 : Hid (∀ j, j < p + 1 → j < s.size → ¬ mk s j) := fun j h1 h2 => by
          rcases Nat.lt_or_ge j p with h3 | h3
          · exact HN.out j h3 h2
          · obtain rfl : j = p := by omega
            exact fun h => by have := hm.1 h; cases this
        have CO := Tryz.asciiSet_contains (w.heap.size + 1) x false wr hcell
        clear hm hcell hin HN
        go_wp2_with fail
        refine CO.mono ?_
        rintro e w2 ⟨rfl, hw2⟩
        subst hw2
        go_wp2
        exact ⟨⟨p + 1, by omega, by go_num, HN2, by trivial⟩, by simp [intOf]; omega⟩
      | true =>
        rw [hin] at hm hcell
        have HM : Hid (markI s = p) := mark_hit s p hlt HN.out (hm.2 rfl)
        have CO := Tryz.asciiSet_contains (w.heap.size + 1) x true wr hcell
        clear hm hcell hin HN
        go_wp2_with fail
        refine CO.mono ?_
        rintro e w2 ⟨rfl, hw2⟩
        subst hw2
        go_wp2
        go_ret
        exact ⟨by rw [HM.out]; rfl, HBE.out⟩
    · have hge : ¬ (p : Int) < (s.size : Int) := by omega
      have HM : Hid (markI s = -1) := mark_none s (fun j hj => HN.out j (by omega) hj)
      go_wp2
      go_ret
      exact ⟨by rw [HM.out]; rfl, HBE.out⟩

theorem any_any (s : ByteArray) (w : World) (hs : s.size ≤ 140737488355328) :
    Calls Tryz.prog 63 #[.string s, .string ⟨#[61, 58]⟩] w fun e w' => e = .returned (.int .i64 (markI s)) ∧ Below w.heap.size w w' := by
  rcases Nat.lt_or_ge 8 s.size with h | h
  · exact any_long s w h hs
  · exact any_short s w h
end Go.Proofs.YtnjomfmdogkhgaaGreatDoor.nam
end
