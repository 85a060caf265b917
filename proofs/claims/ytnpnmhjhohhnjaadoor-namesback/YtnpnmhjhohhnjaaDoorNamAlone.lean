/- names.valueAlone: a value whose property is not told. -/
import Derived.Test.YtnpnmhjhohhnjaaDoorNamLook
set_option linter.unusedVariables false
set_option linter.unusedSimpArgs false
namespace Go.Proofs.YtnpnmhjhohhnjaaDoor.nam
open Go.RowKit lin

theorem alone1 {l : List UInt8} {r : R3} (h : lookL ([103, 99], l) = some r) : aloneL l = (1, r.2.1, 0) := by unfold aloneL; rw [h]
theorem alone2 {l : List UInt8} {r : R3} (h : lookL ([103, 99], l) = none) (h2 : lookL ([98, 105], l) = some r) : aloneL l = (3, r.2.1, 0) := by unfold aloneL; rw [h, h2]
theorem alone3 {l : List UInt8} {r : R3} (h : lookL ([103, 99], l) = none) (h2 : lookL ([98, 105], l) = none) (h3 : lookL ([115, 99], l) = some r) : aloneL l = (2, r.2.1, 0) := by unfold aloneL; rw [h, h2, h3]
theorem alone4 {l : List UInt8} (h : lookL ([103, 99], l) = none) (h2 : lookL ([98, 105], l) = none) (h3 : lookL ([115, 99], l) = none) : aloneL l = (0, [], 50) := by unfold aloneL; rw [h, h2, h3]

/-- The first k kinds have no such value. -/
def noneTo (l : List UInt8) (k : Nat) : Prop := (1 ≤ k → lookL ([103, 99], l) = none) ∧ (2 ≤ k → lookL ([98, 105], l) = none) ∧ (3 ≤ k → lookL ([115, 99], l) = none)
theorem idx0 (w : World) : (Instr.index 76 (.agg #[.string ⟨#[103, 99]⟩, .string ⟨#[98, 105]⟩, .string ⟨#[115, 99]⟩]) (.int .i64 0)).run Tryd.prog w = .ok (.string ⟨#[103, 99]⟩) w := by kernel_rfl
theorem idx1 (w : World) : (Instr.index 76 (.agg #[.string ⟨#[103, 99]⟩, .string ⟨#[98, 105]⟩, .string ⟨#[115, 99]⟩]) (.int .i64 1)).run Tryd.prog w = .ok (.string ⟨#[98, 105]⟩) w := by kernel_rfl
theorem idx2 (w : World) : (Instr.index 76 (.agg #[.string ⟨#[103, 99]⟩, .string ⟨#[98, 105]⟩, .string ⟨#[115, 99]⟩]) (.int .i64 2)).run Tryd.prog w = .ok (.string ⟨#[115, 99]⟩) w := by kernel_rfl

set_option maxHeartbeats 1500000 in
set_option maxRecDepth 100000 in
theorem alone_any (b : Nat) (l : List UInt8) (w : World) (h : Nm w b) (hl : l.length ≤ 281474976710656) :
    Calls Tryd.prog 25 #[.map (some b), .string (BA l)] w fun e w' => e = .returned (.tuple #[.int .i64 (aloneL l).1, .string (BA (aloneL l).2.1), .int .i64 (aloneL l).2.2]) ∧ Below w.heap.size w w' := by
  have HM : Hid (Nm w b) := h
  have HLS : Hid (∀ W, Below w.heap.size w W → ∀ k r, k.length = 2 → lookL (k, l) = some r → (Instr.lookup 47 (.map (some b)) (.agg #[.string (BA k), .string (BA l)]) true).run Tryd.prog W = .ok (.tuple #[.agg #[.string (BA r.2.1), .string (BA r.2.2)], .bool true]) W) := fun W hb k r hk hr => look_some (h.below hb) (by omega) hl hr
  have HLN : Hid (∀ W, Below w.heap.size w W → ∀ k, k.length = 2 → lookL (k, l) = none → (Instr.lookup 47 (.map (some b)) (.agg #[.string (BA k), .string (BA l)]) true).run Tryd.prog W = .ok (.tuple #[.agg #[.string ⟨#[]⟩, .string ⟨#[]⟩], .bool false]) W) := fun W hb k hk hr => look_none (h.below hb) (by omega) hl hr
  have N1 : Hid (∀ W, Calls Tryd.prog 26 #[.string ⟨#[103, 99]⟩] W fun e w' => e = .returned (.int .i64 1) ∧ w' = W) := fun W => number_any [103, 99] W
  have N2 : Hid (∀ W, Calls Tryd.prog 26 #[.string ⟨#[98, 105]⟩] W fun e w' => e = .returned (.int .i64 3) ∧ w' = W) := fun W => number_any [98, 105] W
  have N3 : Hid (∀ W, Calls Tryd.prog 26 #[.string ⟨#[115, 99]⟩] W fun e w' => e = .returned (.int .i64 2) ∧ w' = W) := fun W => number_any [115, 99] W
  clear h
  go_enter Tryd.func25, Tryd.ntmps25
  go_wp2
  go_loopw [12] (fun i wr => ∃ k : Nat, k ≤ 3 ∧ i = .int .i64 k ∧ Hid (noneTo l k) ∧ Below w.heap.size w wr) (fun i _ => 3 - (RowKit.intOf i).toNat)
  case atStart => exact ⟨0, by omega, rfl, ⟨fun h => absurd h (by omega), fun h => absurd h (by omega), fun h => absurd h (by omega)⟩, Below.refl _ _⟩
  case round =>
    obtain ⟨k, hk, rfl, HP, hbel⟩ := hrel
    have hbs := hbel.size
    rcases (show k = 0 ∨ k = 1 ∨ k = 2 ∨ k = 3 by omega) with rfl | rfl | rfl | rfl
    · cases hlk : lookL ([103, 99], l) with
      | some r =>
        have LK : (Instr.lookup 47 (.map (some b)) (.agg #[.string ⟨#[103, 99]⟩, .string (BA l)]) true).run Tryd.prog wr = .ok (.tuple #[.agg #[.string (BA r.2.1), .string (BA r.2.2)], .bool true]) wr := HLS.out wr hbel [103, 99] r rfl hlk
        have HE : Hid (aloneL l = (1, r.2.1, 0)) := alone1 hlk
        clear hlk
        have IX := idx0 wr
        go_wp2
        go_quiet (exact (N1.out _).mono fun _ _ h => ⟨h.1, _, h.2⟩)
        go_wp2
        go_ret3
        exact ⟨by rw [HE.out]; rfl, have q := hbel.alloc hbs _; ⟨q.os, q.tape, q.output, q.size, q.block⟩⟩
      | none =>
        have LK : (Instr.lookup 47 (.map (some b)) (.agg #[.string ⟨#[103, 99]⟩, .string (BA l)]) true).run Tryd.prog wr = .ok (.tuple #[.agg #[.string ⟨#[]⟩, .string ⟨#[]⟩], .bool false]) wr := HLN.out wr hbel [103, 99] rfl hlk
        have HP2 : Hid (noneTo l 1) := ⟨fun _ => hlk, fun h => absurd h (by omega), fun h => absurd h (by omega)⟩
        clear hlk HP
        have IX := idx0 wr
        go_wp2
        exact ⟨⟨1, by omega, rfl, HP2, hbel.alloc hbs _⟩, by simp [intOf]⟩
    · cases hlk : lookL ([98, 105], l) with
      | some r =>
        have LK : (Instr.lookup 47 (.map (some b)) (.agg #[.string ⟨#[98, 105]⟩, .string (BA l)]) true).run Tryd.prog wr = .ok (.tuple #[.agg #[.string (BA r.2.1), .string (BA r.2.2)], .bool true]) wr := HLS.out wr hbel [98, 105] r rfl hlk
        have HE : Hid (aloneL l = (3, r.2.1, 0)) := alone2 (HP.out.1 (by omega)) hlk
        clear hlk
        have IX := idx1 wr
        go_wp2
        go_quiet (exact (N2.out _).mono fun _ _ h => ⟨h.1, _, h.2⟩)
        go_wp2
        go_ret3
        exact ⟨by rw [HE.out]; rfl, have q := hbel.alloc hbs _; ⟨q.os, q.tape, q.output, q.size, q.block⟩⟩
      | none =>
        have LK : (Instr.lookup 47 (.map (some b)) (.agg #[.string ⟨#[98, 105]⟩, .string (BA l)]) true).run Tryd.prog wr = .ok (.tuple #[.agg #[.string ⟨#[]⟩, .string ⟨#[]⟩], .bool false]) wr := HLN.out wr hbel [98, 105] rfl hlk
        have HP2 : Hid (noneTo l 2) := ⟨fun _ => HP.out.1 (by omega), fun _ => hlk, fun h => absurd h (by omega)⟩
        clear hlk HP
        have IX := idx1 wr
        go_wp2
        exact ⟨⟨2, by omega, rfl, HP2, hbel.alloc hbs _⟩, by simp [intOf]⟩
    · cases hlk : lookL ([115, 99], l) with
      | some r =>
        have LK : (Instr.lookup 47 (.map (some b)) (.agg #[.string ⟨#[115, 99]⟩, .string (BA l)]) true).run Tryd.prog wr = .ok (.tuple #[.agg #[.string (BA r.2.1), .string (BA r.2.2)], .bool true]) wr := HLS.out wr hbel [115, 99] r rfl hlk
        have HE : Hid (aloneL l = (2, r.2.1, 0)) := alone3 (HP.out.1 (by omega)) (HP.out.2.1 (by omega)) hlk
        clear hlk
        have IX := idx2 wr
        go_wp2
        go_quiet (exact (N3.out _).mono fun _ _ h => ⟨h.1, _, h.2⟩)
        go_wp2
        go_ret3
        exact ⟨by rw [HE.out]; rfl, have q := hbel.alloc hbs _; ⟨q.os, q.tape, q.output, q.size, q.block⟩⟩
      | none =>
        have LK : (Instr.lookup 47 (.map (some b)) (.agg #[.string ⟨#[115, 99]⟩, .string (BA l)]) true).run Tryd.prog wr = .ok (.tuple #[.agg #[.string ⟨#[]⟩, .string ⟨#[]⟩], .bool false]) wr := HLN.out wr hbel [115, 99] rfl hlk
        have HP2 : Hid (noneTo l 3) := ⟨fun _ => HP.out.1 (by omega), fun _ => HP.out.2.1 (by omega), fun _ => hlk⟩
        clear hlk HP
        have IX := idx2 wr
        go_wp2
        exact ⟨⟨3, by omega, rfl, HP2, hbel.alloc hbs _⟩, by simp [intOf]⟩
    · have HE : Hid (aloneL l = (0, [], 50)) := alone4 (HP.out.1 (by omega)) (HP.out.2.1 (by omega)) (HP.out.2.2 (by omega))
      go_wp2
      go_ret3
      exact ⟨by rw [HE.out]; rfl, hbel⟩
end Go.Proofs.YtnpnmhjhohhnjaaDoor.nam
