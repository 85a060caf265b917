/- The statements on names: awake, NamesLoose, NamesResolve. -/
import Derived.Test.YtnpnmhjhohhnjaaDoorNamRefResolve
set_option linter.unusedVariables false
set_option linter.unusedSimpArgs false
namespace Go.Proofs.YtnpnmhjhohhnjaaDoor.nam
open Go.RowKit lin

def awakeB : ByteArray := ⟨#[103, 101, 110, 101, 114, 97, 108, 32, 99, 97, 116, 101, 103, 111, 114, 121, 32, 61, 32, 117, 112, 112, 101, 114, 99, 97, 115, 101, 45, 108, 101, 116, 116, 101, 114]⟩
theorem awake_res : resolveV awakeB = (1, [76, 117], 0) := by decide +kernel
theorem awake_any (w : World) : Calls Tryd.prog 10 #[] w fun e w' => e = .returned (.bool true) ∧ Below w.heap.size w w' := by
  have RS := resolve_any awakeB w (by decide)
  rw [awake_res] at RS
  have t1 : ((BA [76, 117]).toList == [76, 117]) = true := beqT rfl
  have RS2 : Calls Tryd.prog 11 #[.string ⟨#[103, 101, 110, 101, 114, 97, 108, 32, 99, 97, 116, 101, 103, 111, 114, 121, 32, 61, 32, 117, 112, 112, 101, 114, 99, 97, 115, 101, 45, 108, 101, 116, 116, 101, 114]⟩] w fun e w' => e = .returned (.tuple #[.int .i64 1, .string (BA [76, 117]), .int .i64 0]) ∧ Below w.heap.size w w' := RS
  clear RS
  generalize BA [76, 117] = lu at *
  go_enter Tryd.func10, Tryd.ntmps10
  go_wp2_with fail
  refine RS2.mono ?_
  rintro e w1 ⟨rfl, hb⟩
  clear RS2
  go_wp2
  go_ret
  exact ⟨rfl, hb⟩

theorem namesLoose_any (s : ByteArray) (w : World) (hs : s.size ≤ 140737488355327) :
    Calls Tryd.prog 3 #[.string s] w fun e w' => e = .returned (.bool true) ∧ Below w.heap.size w w' := by
  have L1 := loose_any s w hs
  have L2 : Hid (∀ W, Calls Tryd.prog 9 #[.string s] W fun e w' => e = .returned (.string (BA (looseL s.data.toList))) ∧ Below W.heap.size W w') := fun W => rloose_any s W hs
  have AW : Hid (∀ W, Calls Tryd.prog 10 #[] W fun e w' => e = .returned (.bool true) ∧ Below W.heap.size W w') := awake_any
  generalize BA (looseL s.data.toList) = x at *
  go_enter Tryd.func3, Tryd.ntmps3
  go_wp2_with fail
  refine L1.mono ?_
  rintro e w1 ⟨rfl, b1⟩
  clear L1
  go_wp2_with fail
  refine (L2.out _).mono ?_
  rintro e w2 ⟨rfl, hb2⟩
  have b2 := b1.trans (hb2.mono b1.size)
  have t1 : (x.toList == x.toList) = true := beq_self_eq_true _
  go_wp2_with fail
  refine (AW.out _).mono ?_
  rintro e w3 ⟨rfl, hb3⟩
  have b3 := b2.trans (hb3.mono b2.size)
  go_wp2
  go_ret
  exact ⟨rfl, b3⟩

theorem namesResolve_any (s : ByteArray) (w : World) (hs : s.size ≤ 140737488355327) :
    Calls Tryd.prog 4 #[.string s] w fun e w' => e = .returned (.bool true) ∧ Below w.heap.size w w' := by
  have L1 := resolve_any s w hs
  have L2 : Hid (∀ W, Calls Tryd.prog 12 #[.string s] W fun e w' => e = .returned (.tuple #[.int .i64 (resolveV s).1, .string (BA (resolveV s).2.1), .int .i64 (resolveV s).2.2]) ∧ Below W.heap.size W w') := fun W => rresolve_any s W hs
  have AW : Hid (∀ W, Calls Tryd.prog 10 #[] W fun e w' => e = .returned (.bool true) ∧ Below W.heap.size W w') := awake_any
  generalize BA (resolveV s).2.1 = x at *
  generalize (resolveV s).1 = n at *
  generalize (resolveV s).2.2 = er at *
  have t1 : (x.toList == x.toList) = true := beq_self_eq_true _
  have t2 : (n == n) = true := beq_self_eq_true _
  have t3 : (er == er) = true := beq_self_eq_true _
  go_enter Tryd.func4, Tryd.ntmps4
  go_wp2_with fail
  refine L1.mono ?_
  rintro e w1 ⟨rfl, b1⟩
  clear L1
  go_wp2_with fail
  refine (L2.out _).mono ?_
  rintro e w2 ⟨rfl, hb2⟩
  have b2 := b1.trans (hb2.mono b1.size)
  go_wp2_with fail
  refine (AW.out _).mono ?_
  rintro e w3 ⟨rfl, hb3⟩
  have b3 := b2.trans (hb3.mono b2.size)
  go_wp2
  go_ret
  exact ⟨rfl, b3⟩
end Go.Proofs.YtnpnmhjhohhnjaaDoor.nam
