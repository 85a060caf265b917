/- Rows of spans in memory; whether they stand apart (lies, apart; the document's fits). -/
import Derived.Test.YtfnndnlhdfjggaaEdtMem
import Derived.Test.YtfnndnlhdfjggaaEdtPure
set_option linter.unusedVariables false
set_option linter.unusedSimpArgs false
namespace Go.Proofs.Ytfnndnlhdfjggaa.edt
open Go.RowKit

abbrev Sp := Int × Int
/-- From the address on lie n spans. -/
structure SS (w : World) (ao : Option Addr) (n cap : Nat) (l : List Sp) : Prop where
  len : l.length = n
  nc : n ≤ cap
  cm : cap ≤ 9223372036854775807
  cell : n = 0 ∨ ∃ b off, ao = some ⟨b, off, none⟩ ∧ ∀ i, i < n → w.cell? ⟨b, off + i * 2, none⟩ = some (.int .i64 (l.getD i (0, 0)).1) ∧ w.cell? ⟨b, off + i * 2 + 1, none⟩ = some (.int .i64 (l.getD i (0, 0)).2)
theorem SS.below {w w' : World} {ao : Option Addr} {n cap : Nat} {l : List Sp} (h : SS w ao n cap l) (hb : Below w.heap.size w w') : SS w' ao n cap l := by
  refine ⟨h.len, h.nc, h.cm, ?_⟩
  rcases h.cell with k | ⟨b, off, rfl, k⟩
  · exact .inl k
  · exact .inr ⟨b, off, rfl, fun i hi => ⟨(hb.cell (World.block_lt_of_cell? w _ (k i hi).1)).trans (k i hi).1, (hb.cell (World.block_lt_of_cell? w _ (k i hi).2)).trans (k i hi).2⟩⟩
theorem SS.at_ {w : World} {ao : Option Addr} {n cap : Nat} {l : List Sp} (h : SS w ao n cap l) (h0 : 0 < n) : ∃ b off, ao = some ⟨b, off, none⟩ ∧ ∀ i, i < n → w.cell? ⟨b, off + i * 2, none⟩ = some (.int .i64 (l.getD i (0, 0)).1) ∧ w.cell? ⟨b, off + i * 2 + 1, none⟩ = some (.int .i64 (l.getD i (0, 0)).2) := by
  rcases h.cell with h | h
  · omega
  · exact h
/-- Whether a span stands between two places, not falling. -/
def ly (p : Sp) (a z : Int) : Bool := decide (a ≤ p.1) && decide (p.1 ≤ p.2) && decide (p.2 ≤ z)
/-- Whether spans stand each behind the one ahead. -/
def apB (z : Int) : Int → List Sp → Bool
  | _, [] => true
  | e, p :: r => ly p e z && apB z p.2 r
theorem ly_iff (p : Sp) (a z : Int) : ly p a z = true ↔ a ≤ p.1 ∧ p.1 ≤ p.2 ∧ p.2 ≤ z := by simp [ly, and_assoc]
theorem apB_drop (z e : Int) (l : List Sp) (k : Nat) (h : k < l.length) : apB z e (l.drop k) = (ly (l.getD k (0, 0)) e z && apB z (l.getD k (0, 0)).2 (l.drop (k + 1))) := by
  rw [drop_cons l k (0, 0) h]; rfl

theorem lies_any (x y a z : Int) (w : World) :
    Calls Try.prog 45 #[.agg #[.int .i64 x, .int .i64 y], .int .i64 a, .int .i64 z] w fun e w' => e = .returned (.bool (ly (x, y) a z)) ∧ Below w.heap.size w w' := by
  go_enter Try.func45, Try.ntmps45
  go_wp2
  all_goals (go_ret; refine ⟨ret_bool ?_, (Below.refl _ _).alloc (Nat.le_refl _) _⟩; unfold ly; rw [Bool.eq_iff_iff]; simp; try omega)
theorem fits_any (x y z : Int) (w : World) :
    Calls Try.prog 44 #[.agg #[.int .i64 x, .int .i64 y], .int .i64 z] w fun e w' => e = .returned (.bool (ly (x, y) 0 z)) ∧ Below w.heap.size w w' := by
  go_enter Try.func44, Try.ntmps44
  go_wp2
  all_goals (go_ret; refine ⟨ret_bool ?_, (Below.refl _ _).alloc (Nat.le_refl _) _⟩; unfold ly; rw [Bool.eq_iff_iff]; simp; try omega)

theorem apart_any (ao : Option Addr) (n cap : Nat) (l : List Sp) (z : Int) (w : World) (hS : SS w ao n cap l) :
    Calls Try.prog 34 #[.slice ao n cap, .int .i64 z] w fun e w' => e = .returned (.bool (apB z 0 l)) ∧ Below w.heap.size w w' := by
  have hn := hS.nc
  have hm := hS.cm
  have HS : Hid (SS w ao n cap l) := hS
  clear hS
  go_enter Try.func34, Try.ntmps34
  go_wp2
  go_loopw [5, 10] (fun s i wr => ∃ (k : Nat) (e : Int), k ≤ n ∧ i = .int .i64 k ∧ s = .int .i64 e ∧ Below w.heap.size w wr ∧ Hid (apB z e (l.drop k) = apB z 0 l)) (fun _ i _ => n - (intOf i).toNat)
  case atStart => exact ⟨0, 0, Nat.zero_le _, rfl, rfl, Below.refl _ _, rfl⟩
  case round =>
    obtain ⟨k, e, hk, rfl, rfl, hb, HK⟩ := hrel
    have hsz := hb.size
    by_cases hlt : k < n
    · obtain ⟨b, off, rfl, hc⟩ := (HS.out.below hb).at_ (by omega)
      obtain ⟨c0, c1⟩ := hc k hlt
      have HK2 : Hid ((ly (l.getD k (0, 0)) e z && apB z (l.getD k (0, 0)).2 (l.drop (k + 1))) = apB z 0 l) := by rw [← apB_drop z e l k (by rw [HS.out.len]; exact hlt)]; exact HK.out
      clear hc HK
      generalize l.getD k (0, 0) = p at *
      obtain ⟨x, y⟩ := p
      simp only at c0 c1
      have L := fun W => lies_any x y e z W
      cases hd : ly (x, y) e z with
      | false =>
        simp only [hd] at L
        go_wp2_with fail
        refine (L _).mono ?_
        rintro e' w1 ⟨rfl, hb1⟩
        have R1 : Hid (Below w.heap.size w w1) := (hb.alloc hsz _).trans (hb1.mono (by simp; omega))
        clear hb hb1 L
        go_wp2
        go_ret
        have h1 := HK2.out
        rw [hd] at h1
        exact ⟨ret_bool (by rw [← h1]; rfl), R1.out⟩
      | true =>
        simp only [hd] at L
        go_wp2_with fail
        refine (L _).mono ?_
        rintro e' w1 ⟨rfl, hb1⟩
        have R1 : Hid (Below w.heap.size w w1) := (hb.alloc hsz _).trans (hb1.mono (by simp; omega))
        have cc : w1.cell? ⟨wr.heap.size, 1, none⟩ = some (.int .i64 y) := (hb1.cell (by simp)).trans (by simp)
        clear hb hb1 L
        go_wp2
        go_roundw
        case rel => exact ⟨k + 1, y, by omega, by go_num, rfl, R1.out, by have h1 := HK2.out; rw [hd, Bool.true_and] at h1; exact h1⟩
        case measure => simp [intOf]; omega
    · obtain rfl : k = n := by omega
      have e1 : apB z 0 l = true := by rw [← HK.out, List.drop_eq_nil_of_le (by rw [HS.out.len]; exact Nat.le_refl _)]; rfl
      have R1 : Hid (Below w.heap.size w wr) := hb
      clear hb
      go_wp2
      go_ret
      exact ⟨ret_bool e1.symm, R1.out⟩
end Go.Proofs.Ytfnndnlhdfjggaa.edt
