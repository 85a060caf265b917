/- Whether the program's parts and the document's are the same. -/
import Derived.Test.YtfnndnlhdfjggaaEdtSpoil
set_option linter.unusedVariables false
set_option linter.unusedSimpArgs false
namespace Go.Proofs.Ytfnndnlhdfjggaa.edt
open Go.RowKit

theorem same1_any (a1 a2 : Option Addr) (m1 m2 c1 c2 : Nat) (A : Int) (x : List Int) (w : World) (h1 : BS w a1 m1 c1 x) (h2 : BS w a2 m2 c2 x) :
    Calls Try.prog 29 #[.agg #[.slice a1 m1 c1, .int .i64 A], .agg #[.slice a2 m2 c2, .int .i64 A]] w fun e w' => e = .returned (.bool true) ∧ Below w.heap.size w w' := by
  have EQ : Hid (∀ W, Below w.heap.size w W → Calls Try.prog 12 #[.slice a1 m1 c1, .slice a2 m2 c2] W fun e w' => e = .returned (.bool true) ∧ w' = W) := fun W hb => beq_same _ _ _ W (h1.below hb).bts (h2.below hb).bts
  have HBE : Hid (∀ o o', Below w.heap.size w ((w.alloc o).alloc o')) := fun o o' => ((Below.refl _ w).alloc (Nat.le_refl _) o).alloc (by simp) o'
  have hAA : (A == A) = true := by simp
  clear h1 h2
  go_enter Try.func29, Try.ntmps29
  go_wp2_with (go_at_call 12; refine (EQ.out _ (HBE.out _ _)).mono ?_; rintro e w' ⟨rfl, hw⟩; subst hw)
  go_ret
  exact ⟨rfl, HBE.out _ _⟩

set_option maxHeartbeats 1000000 in
theorem eqp_any (a1 a2 : Option Addr) (n c1 c2 : Nat) (ps : List Pt) (w : World) (h1 : PV w a1 n c1 ps) (h2 : PV w a2 n c2 ps) :
    Calls Try.prog 28 #[.slice a1 n c1, .slice a2 n c2, .func (.func 29) #[] #[]] w fun e w' => e = .returned (.bool true) ∧ Below w.heap.size w w' := by
  have hnc := h1.nc
  have hcm := h1.cm
  have hnc2 := h2.nc
  have H1 : Hid (PV w a1 n c1 ps) := h1
  have H2 : Hid (PV w a2 n c2 ps) := h2
  have hnn : ((n : Int) != (n : Int)) = false := by simp
  clear h1 h2
  go_enter Try.func28, Try.ntmps28
  go_wp2
  go_loopw [17] (fun i wr => ∃ k : Nat, k ≤ n ∧ i = .int .i64 k ∧ Hid (Below w.heap.size w wr)) (fun i _ => n - (intOf i).toNat)
  case atStart => exact ⟨0, Nat.zero_le _, rfl, Below.refl _ _⟩
  case round =>
    obtain ⟨k, hk, rfl, HBE⟩ := hrel
    by_cases hlt : k < n
    · obtain ⟨b1, rfl, k1⟩ := (H1.out.below HBE.out).at_ (by omega)
      obtain ⟨b2, rfl, k2⟩ := (H2.out.below HBE.out).at_ (by omega)
      obtain ⟨x1, m1, d1, p1, p1', q1⟩ := k1 k hlt
      obtain ⟨x2, m2, d2, p2, p2', q2⟩ := k2 k hlt
      have hlb1 := World.block_lt_of_cell? wr _ p1
      have hlb2 := World.block_lt_of_cell? wr _ p2
      simp only at hlb1 hlb2
      generalize (ps.getD k ([], 0)).2 = A at *
      generalize (ps.getD k ([], 0)).1 = x at *
      have EQ : Hid (∀ o o', Calls Try.prog 29 #[.agg #[.slice x1 m1 d1, .int .i64 A], .agg #[.slice x2 m2 d2, .int .i64 A]] ((wr.alloc o).alloc o') fun e w' => e = .returned (.bool true) ∧ Below ((wr.alloc o).alloc o').heap.size ((wr.alloc o).alloc o') w') := fun o o' => by
        have hb : Below wr.heap.size wr ((wr.alloc o).alloc o') := ((Below.refl _ wr).alloc (Nat.le_refl _) o).alloc (by simp) o'
        exact same1_any _ _ _ _ _ _ _ _ _ (q1.below hb) (q2.below hb)
      have HB2 : Hid (∀ o o' w', Below ((wr.alloc o).alloc o').heap.size ((wr.alloc o).alloc o') w' → Below w.heap.size w w') := fun o o' w' h => by
        have hs := HBE.out.size
        exact ((HBE.out.alloc hs o).alloc (by simp; omega) o').trans (h.mono (by simp; omega))
      have hlt' : (k : Int) < (n : Int) := by omega
      clear k1 k2 q1 q2 HBE
      go_wp2_with (go_at_call 29; refine (EQ.out _ _).mono ?_; rintro e w5 ⟨rfl, hw5⟩; have HN : Hid (Below w.heap.size w w5) := HB2.out _ _ _ hw5; clear hw5)
      go_roundw
      case rel => exact ⟨k + 1, by omega, by go_num, by assumption⟩
      case measure => simp [intOf]; omega
    · obtain rfl : k = n := by omega
      go_wp2
      go_ret
      exact ⟨rfl, HBE.out⟩
theorem samep_any (a1 a2 : Option Addr) (n c1 c2 : Nat) (ps : List Pt) (w : World) (h1 : PV w a1 n c1 ps) (h2 : PV w a2 n c2 ps) :
    Calls Try.prog 11 #[.slice a1 n c1, .slice a2 n c2] w fun e w' => e = .returned (.bool true) ∧ Below w.heap.size w w' := by
  have EQ := eqp_any a1 a2 n c1 c2 ps w h1 h2
  clear h1 h2
  go_enter Try.func11, Try.ntmps11
  go_wp2_with fail
  refine EQ.mono ?_
  rintro e w2 ⟨rfl, hb⟩
  go_wp2
  go_ret
  exact ⟨rfl, hb⟩
end Go.Proofs.Ytfnndnlhdfjggaa.edt
