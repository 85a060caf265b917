/- What slices.Equal answers of two rows of the same items: true. -/
import Derived.Test.YtamcaomenbgabaaDoorUtfDec
import Derived.Deep.QuietTactic
import Derived.BigQuiet
set_option linter.unusedVariables false
set_option linter.unusedSimpArgs false
namespace Go.Proofs.YtamcaomenbgabaaDoor.utf
open Go.RowKit

theorem equal_none (a1 a2 : Option Addr) (c1 c2 : Nat) (w : World) :
    Calls Tryd.prog 11 #[.slice a1 0 c1, .slice a2 0 c2] w fun e w' => e = .returned (.bool true) ∧ w' = w := by
  go_enter Tryd.func11, Tryd.ntmps11
  go_wp2
  refine wp_loop_rounds 1 ?_
  rw [rounds_succ]
  go_wp2
  go_ret
  exact ⟨rfl, rfl⟩

/-- The cells of n items, each of three numbers. -/
def IsI (w : World) (b : Nat) (n : Nat) (x y z : Nat → Int) : Prop :=
  ∀ i, i < n → w.cell? ⟨b, i * 3, none⟩ = some (.int .i64 (x i)) ∧ w.cell? ⟨b, i * 3 + 1, none⟩ = some (.int .i64 (y i)) ∧ w.cell? ⟨b, i * 3 + 1 + 1, none⟩ = some (.int .i64 (z i))

theorem equal_some (b1 b2 n c1 c2 : Nat) (x y z : Nat → Int) (w : World) (hn : n ≤ 9223372036854775807) (h1 : IsI w b1 n x y z) (h2 : IsI w b2 n x y z) :
    Calls Tryd.prog 11 #[.slice (some ⟨b1, 0, none⟩) n c1, .slice (some ⟨b2, 0, none⟩) n c2] w fun e w' => e = .returned (.bool true) ∧ Below w.heap.size w w' := by
  have H1 : Hid (IsI w b1 n x y z) := h1
  have H2 : Hid (IsI w b2 n x y z) := h2
  clear h1 h2
  have hnn : ((n : Int) != (n : Int)) = false := by simp
  go_enter Tryd.func11, Tryd.ntmps11
  go_wp2
  go_loopw [13] (fun i wr => ∃ k : Nat, k ≤ n ∧ i = .int .i64 k ∧ ∃ q, wr = w.drewN q) (fun i _ => n - (intOf i).toNat)
  case atStart => exact ⟨0, Nat.zero_le _, rfl, 0, rfl⟩
  case round =>
    obtain ⟨k, hk, rfl, q, rfl⟩ := hrel
    by_cases hlt : k < n
    · have hlt' : (k : Int) < (n : Int) := by omega
      obtain ⟨p1, p2, p3⟩ := H1.out k hlt
      obtain ⟨q1, q2, q3⟩ := H2.out k hlt
      go_wp2
      go_quiet (fail)
      go_wp2
      go_roundw
      case rel => exact ⟨k + 1, by omega, by go_num, _, rfl⟩
      case measure => simp [intOf]; omega
    · go_wp2
      go_ret
      exact ⟨rfl, below_drewN (Below.refl _ _) _⟩

theorem flat_get : ∀ (l : List (Int × Nat × Nat)) (i : Nat), i < l.length → (flat l)[i * 3]? = some (.int .i64 (l.getD i (0, 0, 0)).1) ∧ (flat l)[i * 3 + 1]? = some (.int .i64 ((l.getD i (0, 0, 0)).2.1 : Int)) ∧ (flat l)[i * 3 + 1 + 1]? = some (.int .i64 ((l.getD i (0, 0, 0)).2.2 : Int))
  | [], i, h => by simp at h
  | x :: l, 0, h => by simp [flat]
  | x :: l, i + 1, h => by
    have := flat_get l i (by simpa using h)
    rw [show x :: l = [x] ++ l from rfl, flat_append, show flat [x] = [.int .i64 x.1, .int .i64 x.2.1, .int .i64 x.2.2] from rfl]
    rw [show (i + 1) * 3 = i * 3 + 3 from by omega]
    simpa using this

theorem isI_of {w : World} {B g n cap : Nat} {l : List (Int × Nat × Nat)} (h : w.ownsRow B 26 3 (.slice (some ⟨g, 0, none⟩) l.length cap) l.length (flat l)) :
    IsI w g l.length (fun i => (l.getD i (0, 0, 0)).1) (fun i => ((l.getD i (0, 0, 0)).2.1 : Int)) (fun i => ((l.getD i (0, 0, 0)).2.2 : Int)) := by
  intro i hi
  obtain ⟨e1, e2, e3⟩ := flat_get l i hi
  exact ⟨(h.cellAt _ (by omega)).trans e1, (h.cellAt _ (by omega)).trans e2, (h.cellAt _ (by omega)).trans e3⟩

/-- Two rows of the same items are equal. -/
theorem equal_own {B1 B2 : Nat} {v1 v2 : Value} {l : List (Int × Nat × Nat)} (w : World) (h1 : w.ownsRow B1 26 3 v1 l.length (flat l)) (h2 : w.ownsRow B2 26 3 v2 l.length (flat l)) :
    Calls Tryd.prog 11 #[v1, v2] w fun e w' => e = .returned (.bool true) ∧ Below w.heap.size w w' := by
  rcases Nat.eq_zero_or_pos l.length with h0 | h0
  · obtain rfl := List.eq_nil_of_length_eq_zero h0
    obtain ⟨_, k1⟩ := h1
    obtain ⟨_, k2⟩ := h2
    have e1 : ∃ a c, v1 = .slice a 0 c := by rcases k1 with ⟨rfl, _⟩ | ⟨g, cap, cur, rfl, _⟩ <;> exact ⟨_, _, rfl⟩
    have e2 : ∃ a c, v2 = .slice a 0 c := by rcases k2 with ⟨rfl, _⟩ | ⟨g, cap, cur, rfl, _⟩ <;> exact ⟨_, _, rfl⟩
    obtain ⟨a1, c1, rfl⟩ := e1
    obtain ⟨a2, c2, rfl⟩ := e2
    refine (equal_none a1 a2 c1 c2 w).mono ?_
    rintro e w' ⟨rfl, rfl⟩
    exact ⟨rfl, Below.refl _ _⟩
  · have f1 : ∃ g cap, v1 = .slice (some ⟨g, 0, none⟩) l.length cap ∧ cap ≤ maxLen ∧ l.length ≤ cap := by
      rcases h1.2 with ⟨_, k⟩ | ⟨g, cap, cur, rfl, _, _, hc, hm, _⟩
      · omega
      · exact ⟨g, cap, rfl, hm, hc⟩
    have f2 : ∃ g cap, v2 = .slice (some ⟨g, 0, none⟩) l.length cap := by
      rcases h2.2 with ⟨_, k⟩ | ⟨g, cap, cur, rfl, _⟩
      · omega
      · exact ⟨g, cap, rfl⟩
    obtain ⟨g1, p1, rfl, hm, hc⟩ := f1
    obtain ⟨g2, p2, rfl⟩ := f2
    unfold maxLen at hm
    exact equal_some g1 g2 l.length p1 p2 _ _ _ w (by omega) (isI_of (n := 0) h1) (isI_of (n := 0) h2)
end Go.Proofs.YtamcaomenbgabaaDoor.utf
