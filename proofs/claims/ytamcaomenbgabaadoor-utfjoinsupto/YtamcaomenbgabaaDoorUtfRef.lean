/- What the document's Decode and Valid answer of a row of bytes: the same items, and the same word on whether they are well-formed. -/
import Derived.Test.YtamcaomenbgabaaDoorUtfFirst
import Derived.Test.YtamcaomenbgabaaDoorUtfDec
set_option linter.unusedVariables false
set_option linter.unusedSimpArgs false
namespace Go.Proofs.YtamcaomenbgabaaDoor.utf
open Go.RowKit

/-- first at the rest of a row. -/
theorem first_at (b off n cap : Nat) (f : Nat → Int) (a : Nat) (w : World) (hc : ∀ i, i < n → w.cell? ⟨b, off + i, none⟩ = some (.int .u8 (f i)))
    (ha : a < n) (hn : n ≤ 9223372036854775807) (hcap : n ≤ cap) (hf : ∀ i, 0 ≤ f i ∧ f i ≤ 255) :
    Calls Tryd.prog 17 #[.slice (some ⟨b, off + a, none⟩) (n - a) (cap - a)] w fun e w' =>
      e = .returned (.tuple #[.agg #[.int .i64 (it f n a).1, .int .i64 0, .int .i64 ((it f n a).2.1 - a : Nat)], .bool (it f n a).2.2]) ∧ Below w.heap.size w w' := by
  have h := first_any b (off + a) (n - a) (cap - a) (fun i => f (a + i)) w (fun i hi => by rw [Nat.add_assoc]; exact hc (a + i) (by omega)) (by omega) (by omega) (by omega) (fun i => hf (a + i))
  rw [it_shift, show a + (n - a) = n from by omega] at h
  exact h

set_option maxHeartbeats 400000 in
theorem rvalid_any (ao : Option Addr) (n cap : Nat) (f : Nat → Int) (w : World) (hB : IsB w ao n f) (hn : n ≤ 9223372036854775807) (hcap : n ≤ cap) (hcm : cap ≤ 9223372036854775807) (hf : ∀ i, 0 ≤ f i ∧ f i ≤ 255) :
    Calls Tryd.prog 10 #[.slice ao n cap] w fun e w' => e = .returned (.bool (valid f n 0)) ∧ Below w.heap.size w w' := by
  have HB : Hid (IsB w ao n f) := hB
  have HF : Hid (∀ i, 0 ≤ f i ∧ f i ≤ 255) := hf
  clear hB hf
  go_enter Tryd.func10, Tryd.ntmps10
  go_wp2
  go_loopw [0] (fun v wr => ∃ (a : Nat) (ad : Option Addr), a ≤ n ∧ v = .slice ad (n - a) (cap - a) ∧ Hid (a < n → ∃ b off, ad = some ⟨b, off + a, none⟩ ∧ ∀ i, i < n → w.cell? ⟨b, off + i, none⟩ = some (.int .u8 (f i))) ∧ Hid (valid f n a = valid f n 0) ∧ Below w.heap.size w wr)
    (fun v _ => match v with | .slice _ m _ => m | _ => 0)
  case atStart =>
    refine ⟨0, ao, Nat.zero_le _, rfl, fun h => ?_, rfl, Below.refl _ _⟩
    rcases HB.out with h0 | ⟨b, off, rfl, hc⟩
    · omega
    · exact ⟨b, off, rfl, hc⟩
  case round =>
    obtain ⟨a, ad, han, rfl, HA, HD, hbel⟩ := hrel
    by_cases hlt : a < n
    · obtain ⟨b, off, rfl, hc⟩ := HA.out hlt
      have FA := first_at b off n cap f a wr (fun i hi => (hbel.cell (World.block_lt_of_cell? w _ (hc i hi))).trans (hc i hi)) hlt (by omega) hcap HF.out
      have HC : Hid (∀ i, i < n → w.cell? ⟨b, off + i, none⟩ = some (.int .u8 (f i))) := hc
      have hie := it_end f n a hlt
      have HV := valid_step f n a hlt
      have hp : (0 : Int) < ((n - a : Nat) : Int) := by omega
      obtain ⟨D, hD⟩ : ∃ D, (it f n a).2.1 = a + D := ⟨(it f n a).2.1 - a, by omega⟩
      rw [hD] at FA hie HV
      rw [show a + D - a = D from by omega] at FA
      clear hD hc HA
      generalize (it f n a).1 = R at *
      go_wp2_with fail
      refine FA.mono ?_
      rintro e w1 ⟨rfl, hb1⟩
      have hs1 := hbel.size
      have hs2 := hb1.size
      have R2 := (hbel.trans (hb1.mono hs1)).alloc (by omega) (.cells #[.int .i64 R, .int .i64 0, .int .i64 D] 26)
      clear hbel hb1 FA
      cases hk : (it f n a).2.2 with
      | true =>
        have HE : Hid (valid f n (a + D) = valid f n 0) := by rw [hk, Bool.true_and] at HV; exact HV.symm.trans HD.out
        clear HV HD hk
        go_wp2
        go_roundw
        case rel =>
          refine ⟨a + D, _, by omega, by rw [Nat.sub_sub, Nat.sub_sub], fun h => ⟨b, off, ?_, HC.out⟩, HE, R2⟩
          rw [if_neg (by omega), Nat.add_assoc]
        case measure => simp; omega
      | false =>
        have HE : Hid (valid f n 0 = false) := by rw [hk, Bool.false_and] at HV; exact HD.out.symm.trans HV
        clear HV HD hk
        go_wp2
        go_ret
        exact ⟨ret_bool HE.out.symm, R2⟩
    · have hp : ¬ (0 : Int) < ((n - a : Nat) : Int) := by omega
      go_wp2
      go_ret
      exact ⟨ret_bool (by rw [← HD.out, valid_end f n a (by omega)]), hbel⟩
end Go.Proofs.YtamcaomenbgabaaDoor.utf
