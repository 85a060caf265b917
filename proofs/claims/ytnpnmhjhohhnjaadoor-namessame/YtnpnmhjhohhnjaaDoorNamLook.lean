/- Looking up the file's names; a value alone; kinds and their numbers. -/
import Derived.Test.YtnpnmhjhohhnjaaDoorNamFile
import Derived.Test.YtnpnmhjhohhnjaaDoorNamRefLoose
import Derived.Deep.QuietTactic
import Derived.BigQuiet
set_option linter.unusedVariables false
set_option linter.unusedSimpArgs false
namespace Go.Proofs.YtnpnmhjhohhnjaaDoor.nam
open Go.RowKit lin

abbrev Nm (w : World) (b : Nat) : Prop := Mp Tryd.prog 55 ek okk w b 1000 (tab rowsL)
theorem zeroA (w : World) : (zeroValue 52).run Tryd.prog w = .ok (.agg #[.string ⟨#[]⟩, .string ⟨#[]⟩]) w := by kernel_rfl
theorem look_some {w : World} {b : Nat} (h : Nm w b) {k l : List UInt8} {r : R3} (hk : k.length ≤ 281474976710656) (hl : l.length ≤ 281474976710656) (hr : lookL (k, l) = some r) :
    (Instr.lookup 47 (.map (some b)) (.agg #[.string (BA k), .string (BA l)]) true).run Tryd.prog w = .ok (.tuple #[.agg #[.string (BA r.2.1), .string (BA r.2.2)], .bool true]) w := by
  have := h.look keyE Tryd.underlying47 (zeroA w) (x := (BA k, BA l)) ⟨by rw [BA_size]; unfold maxLen; omega, by rw [BA_size]; unfold maxLen; omega⟩
  rw [tab_look, BA_data, BA_data, hr] at this
  exact this
theorem look_none {w : World} {b : Nat} (h : Nm w b) {k l : List UInt8} (hk : k.length ≤ 281474976710656) (hl : l.length ≤ 281474976710656) (hr : lookL (k, l) = none) :
    (Instr.lookup 47 (.map (some b)) (.agg #[.string (BA k), .string (BA l)]) true).run Tryd.prog w = .ok (.tuple #[.agg #[.string ⟨#[]⟩, .string ⟨#[]⟩], .bool false]) w := by
  have := h.look keyE Tryd.underlying47 (zeroA w) (x := (BA k, BA l)) ⟨by rw [BA_size]; unfold maxLen; omega, by rw [BA_size]; unfold maxLen; omega⟩
  rw [tab_look, BA_data, BA_data, hr] at this
  exact this
theorem look_mem {x : List UInt8 × List UInt8} {r : R3} (h : lookL x = some r) : r ∈ rowsL ∧ r.1 = x.1 := by
  have h1 := List.mem_of_find?_eq_some h
  have h2 := List.find?_some h
  unfold hit at h2
  simp only [Bool.and_eq_true, beq_iff_eq] at h2
  exact ⟨h1, h2.1⟩

theorem beqT {k L : List UInt8} (h : k = L) : ((BA k).toList == L) = true := by rw [Lib.toList_data, BA_data, h]; exact beq_self_eq_true _
theorem beqF {k L : List UInt8} (h : ¬ k = L) : ((BA k).toList == L) = false := by rw [beq_eq_false_iff_ne, Lib.toList_data, BA_data]; exact h

def numL (k : List UInt8) : Int := if k = [103, 99] then 1 else if k = [115, 99] then 2 else if k = [98, 105] then 3 else 0
def kindL (n : Int) : List UInt8 := if n = 1 then [103, 99] else if n = 2 then [115, 99] else if n = 3 then [98, 105] else []
theorem number_any (k : List UInt8) (w : World) : Calls Tryd.prog 26 #[.string (BA k)] w fun e w' => e = .returned (.int .i64 (numL k)) ∧ w' = w := by
  by_cases h1 : k = [103, 99]
  · have t1 := beqT h1
    have HE : Hid (numL k = 1) := by unfold Hid numL; rw [if_pos h1]
    clear h1
    go_enter Tryd.func26, Tryd.ntmps26
    go_wp2
    go_ret
    exact ⟨by rw [HE.out]; rfl, rfl⟩
  · have t1 := beqF h1
    by_cases h2 : k = [115, 99]
    · have t2 := beqT h2
      have HE : Hid (numL k = 2) := by unfold Hid numL; rw [if_neg h1, if_pos h2]
      clear h1 h2
      go_enter Tryd.func26, Tryd.ntmps26
      go_wp2
      go_ret
      exact ⟨by rw [HE.out]; rfl, rfl⟩
    · have t2 := beqF h2
      by_cases h3 : k = [98, 105]
      · have t3 := beqT h3
        have HE : Hid (numL k = 3) := by unfold Hid numL; rw [if_neg h1, if_neg h2, if_pos h3]
        clear h1 h2 h3
        go_enter Tryd.func26, Tryd.ntmps26
        go_wp2
        go_ret
        exact ⟨by rw [HE.out]; rfl, rfl⟩
      · have t3 := beqF h3
        have HE : Hid (numL k = 0) := by unfold Hid numL; rw [if_neg h1, if_neg h2, if_neg h3]
        clear h1 h2 h3
        go_enter Tryd.func26, Tryd.ntmps26
        go_wp2
        go_ret
        exact ⟨by rw [HE.out]; rfl, rfl⟩
theorem kind_any (n : Int) (w : World) : Calls Tryd.prog 29 #[.int .i64 n] w fun e w' => e = .returned (.string (BA (kindL n))) ∧ w' = w := by
  have HE1 : Hid (n = 1 → kindL n = [103, 99]) := fun h => by unfold kindL; rw [if_pos h]
  have HE2 : Hid (n ≠ 1 → n = 2 → kindL n = [115, 99]) := fun h h2 => by unfold kindL; rw [if_neg h, if_pos h2]
  have HE3 : Hid (n ≠ 1 → n ≠ 2 → n = 3 → kindL n = [98, 105]) := fun h h2 h3 => by unfold kindL; rw [if_neg h, if_neg h2, if_pos h3]
  have HE4 : Hid (n ≠ 1 → n ≠ 2 → n ≠ 3 → kindL n = []) := fun h h2 h3 => by unfold kindL; rw [if_neg h, if_neg h2, if_neg h3]
  cases t1 : (n == 1) with
  | true =>
    have h1 : n = 1 := by simpa using t1
    have HE : Hid (kindL n = [103, 99]) := HE1.out h1
    clear h1
    go_enter Tryd.func29, Tryd.ntmps29
    go_wp2
    go_ret
    exact ⟨by rw [HE.out]; rfl, rfl⟩
  | false =>
    have h1 : n ≠ 1 := by simpa using t1
    cases t2 : (n == 2) with
    | true =>
      have HE : Hid (kindL n = [115, 99]) := HE2.out h1 (by simpa using t2)
      clear h1
      go_enter Tryd.func29, Tryd.ntmps29
      go_wp2
      go_ret
      exact ⟨by rw [HE.out]; rfl, rfl⟩
    | false =>
      have h2 : n ≠ 2 := by simpa using t2
      cases t3 : (n == 3) with
      | true =>
        have HE : Hid (kindL n = [98, 105]) := HE3.out h1 h2 (by simpa using t3)
        clear h1 h2
        go_enter Tryd.func29, Tryd.ntmps29
        go_wp2
        go_ret
        exact ⟨by rw [HE.out]; rfl, rfl⟩
      | false =>
        have HE : Hid (kindL n = []) := HE4.out h1 h2 (by simpa using t3)
        clear h1 h2
        go_enter Tryd.func29, Tryd.ntmps29
        go_wp2
        go_ret
        exact ⟨by rw [HE.out]; rfl, rfl⟩

/-- What a value alone names: its kind's number, its short name, the error. -/
def aloneL (l : List UInt8) : Int × List UInt8 × Int :=
  match lookL ([103, 99], l) with
  | some r => (1, r.2.1, 0)
  | none => match lookL ([98, 105], l) with
    | some r => (3, r.2.1, 0)
    | none => match lookL ([115, 99], l) with
      | some r => (2, r.2.1, 0)
      | none => (0, [], 50)
end Go.Proofs.YtnpnmhjhohhnjaaDoor.nam
