/- What utf.Decode and utf.Valid answer of a row of bytes: its items in a new row, whether all are well-formed; nothing that was there changes. -/
import Derived.Test.YtpdkdfgcnhcmkaaUtfItem
set_option linter.unusedVariables false
set_option linter.unusedSimpArgs false
namespace Go.Proofs.Ytpdkdfgcnhcmkaa.utf
open Go.RowKit

theorem infoItem : (Try.prog.info? 32).map (fun i => (i.zero, i.size, i.bytes)) = some (some (.agg #[.int .i64 0, .int .i64 0, .int .i64 0]), 3, 24) := by kernel_rfl

theorem own_below {w w' : World} {B e size n : Nat} {v : Value} {xs : List Value} (h : w.ownsRow B e size v n xs) (hb : Below w.heap.size w w') : w'.ownsRow B e size v n xs := by
  refine ⟨h.1, ?_⟩
  rcases h.2 with hn | ⟨g, cap, cur, rfl, hg, hgg, rest⟩
  · exact .inl hn
  · exact .inr ⟨g, cap, cur, rfl, hg, by rw [hb.block g (Array.getElem?_eq_some_iff.1 hgg).1]; exact hgg, rest⟩

/-- The value is a row of n bytes: byte i is f i. -/
def IsB (w : World) (ao : Option Addr) (n : Nat) (f : Nat → Int) : Prop :=
  n = 0 ∨ ∃ b off, ao = some ⟨b, off, none⟩ ∧ ∀ i, i < n → w.cell? ⟨b, off + i, none⟩ = some (.int .u8 (f i))
theorem IsB.below {w w' : World} {ao : Option Addr} {n : Nat} {f : Nat → Int} (h : IsB w ao n f) (hb : Below w.heap.size w w') : IsB w' ao n f := by
  rcases h with h | ⟨b, off, rfl, h⟩
  · exact .inl h
  · exact .inr ⟨b, off, rfl, fun i hi => (hb.cell (World.block_lt_of_cell? w _ (h i hi))).trans (h i hi)⟩

/-- The cells of items. -/
def flat (l : List (Int × Nat × Nat)) : List Value := l.flatMap fun x => [.int .i64 x.1, .int .i64 x.2.1, .int .i64 x.2.2]
theorem flat_append (l r : List (Int × Nat × Nat)) : flat (l ++ r) = flat l ++ flat r := by simp [flat]
theorem flat_one (r : Int) (a e : Nat) : flat [(r, a, e)] = [.int .i64 r, .int .i64 a, .int .i64 e] := by simp [flat]
theorem flat_length (l : List (Int × Nat × Nat)) : (flat l).length = l.length * 3 := by
  induction l with
  | nil => rfl
  | cons x l ih => rw [show x :: l = [x] ++ l from rfl, flat_append, List.length_append, ih]; simp [flat]; omega

theorem three_new (w : World) (o : Obj) (x y z : Value) : ∀ (j : Nat) (u : Value), [x, y, z][j]? = some u → ((w.alloc o).alloc (Obj.cells #[x, y, z] 32)).cell? ((⟨w.heap.size + 1, 0, none⟩ : Addr).add j) = some u := by
  intro j u hj
  match j, hj with
  | 0, hj => simp at hj; subst hj; simp [Addr.add]
  | 1, hj => simp at hj; subst hj; simp [Addr.add]
  | 2, hj => simp at hj; subst hj; simp [Addr.add]
  | k + 3, hj => simp at hj

theorem decode_none (ao : Option Addr) (cap : Nat) (w : World) :
    Calls Try.prog 24 #[.slice ao 0 cap] w fun e w' => e = .returned (.slice none 0 0) ∧ w' = w := by
  go_enter Try.func24, Try.ntmps24
  go_wp2
  refine wp_loop_rounds 1 ?_
  rw [rounds_succ]
  go_wp2
  go_ret
  exact ⟨rfl, rfl⟩

set_option maxHeartbeats 400000 in
theorem decode_some (b off n cap : Nat) (f : Nat → Int) (w : World) (hc : ∀ i, i < n → w.cell? ⟨b, off + i, none⟩ = some (.int .u8 (f i)))
    (hn : n * 24 ≤ 140737488355328) (hf : ∀ i, 0 ≤ f i ∧ f i ≤ 255) :
    Calls Try.prog 24 #[.slice (some ⟨b, off, none⟩) n cap] w fun e w' => ∃ v, e = .returned v ∧ w'.ownsRow w.heap.size 32 3 v (items f n 0).length (flat (items f n 0)) ∧ Below w.heap.size w w' := by
  obtain ⟨i0, hi, hz0, hz1, hz2⟩ := info_parts infoItem
  have HC : Hid (∀ i, i < n → w.cell? ⟨b, off + i, none⟩ = some (.int .u8 (f i))) := hc
  have HF : Hid (∀ i, 0 ≤ f i ∧ f i ≤ 255) := hf
  clear hc hf
  go_enter Try.func24, Try.ntmps24
  go_wp2
  go_loopw [3, 4] (fun v i wr => ∃ (a : Nat) (done : List (Int × Nat × Nat)), a ≤ n ∧ i = .int .i64 a ∧ done.length ≤ a ∧ wr.ownsRow w.heap.size 32 3 v done.length (flat done) ∧ Hid (done ++ items f n a = items f n 0) ∧ Below w.heap.size w wr)
    (fun _ i _ => n - (intOf i).toNat)
  case atStart => exact ⟨0, [], Nat.zero_le _, rfl, Nat.le_refl _, World.ownsRow_nil _ _ _ _, rfl, Below.refl _ _⟩
  case round =>
    obtain ⟨a, done, han, rfl, hda, hown, HD, hbel⟩ := hrel
    by_cases hlt : a < n
    · have HCr : Hid (∀ i, i < n → wr.cell? ⟨b, off + i, none⟩ = some (.int .u8 (f i))) := fun i hi => (hbel.cell (World.block_lt_of_cell? w _ (HC.out i hi))).trans (HC.out i hi)
      go_wp2_with fail
      refine (item_any b off n cap f a _ HCr.out hlt (by omega) HF.out).mono ?_
      rintro e w1 ⟨rfl, hb1⟩
      have hie := it_end f n a hlt
      have HD2 : Hid ((done ++ [((it f n a).1, a, (it f n a).2.1)]) ++ items f n (it f n a).2.1 = items f n 0) := by
        rw [List.append_assoc]; rw [items_step f n a hlt] at HD; exact HD
      have hown1 := own_below hown hb1
      have hs1 := hbel.size
      have hs2 := hb1.size
      have HV : Hid (some w1.heap.size ≠ u3.ownBlock) := fun e => by have := (hown.lt _ e.symm).2; omega
      have HW : Hid (∀ k, u3.ownBlock = some k → w.heap.size ≤ k) := fun k e => (hown.lt _ e).1
      clear HD HCr hown
      generalize (it f n a).2.2 = K at *
      generalize (it f n a).2.1 = E at *
      generalize (it f n a).1 = R at *
      go_wp2_with (at_builtin; refine wpList_append_own _ rfl _ _ 29 rfl w.heap.size 32 i0 (.agg #[.int .i64 0, .int .i64 0, .int .i64 0]) 3 24 Try.underlying29 hi hz0 hz1 hz2 rfl (by decide) _ _ _ rfl ((hown1.alloc _).alloc _) ⟨w1.heap.size + 1, 0, none⟩ 1 1 [.int .i64 R, .int .i64 a, .int .i64 E] rfl rfl ?c1 ?c2 ?c3 ?c4 ?c5 ?_)
      case c1 => exact three_new w1 _ _ _ _
      case c2 => intro u hu; simp at hu; rcases hu with rfl | rfl | rfl <;> rfl
      case c3 => unfold maxLen; omega
      case c4 => omega
      case c5 => simp; omega
      · intro v' w2 hown2 hgrow _
        have hx2 : w2.cell? ⟨w1.heap.size, 2, none⟩ = some (.int .i64 E) := hgrow.cell (by simp) HV.out
        have R2 := Below.grown (((hbel.trans (hb1.mono hs1)).alloc (by omega) (.cells #[.int .i64 R, .int .i64 a, .int .i64 E] 32)).alloc (by simp; omega) (.cells #[.int .i64 R, .int .i64 a, .int .i64 E] 32)) hgrow (by simp; omega) HW.out
        have R1 : w2.ownsRow w.heap.size 32 3 v' (done ++ [(R, a, E)]).length (flat (done ++ [(R, a, E)])) := by
          rw [flat_append, flat_one, List.length_append]; exact hown2
        clear hown2 hgrow hown1 hb1 hbel
        go_wp2
        go_roundw
        case rel => exact ⟨E, done ++ [(R, a, E)], by omega, rfl, by simp; omega, R1, HD2, R2⟩
        case measure => simp [intOf]; omega
    · go_wp2
      go_ret
      have : a = n := by omega
      subst this
      have e := HD.out
      rw [items_end f a a (Nat.le_refl _), List.append_nil] at e
      rw [← e]
      exact ⟨_, rfl, hown, hbel⟩

/-- Decode at whatever row of bytes. -/
theorem decode_any (ao : Option Addr) (n cap : Nat) (f : Nat → Int) (w : World) (hB : IsB w ao n f) (hn : n * 24 ≤ 140737488355328) (hf : ∀ i, 0 ≤ f i ∧ f i ≤ 255) :
    Calls Try.prog 24 #[.slice ao n cap] w fun e w' => ∃ v, e = .returned v ∧ w'.ownsRow w.heap.size 32 3 v (items f n 0).length (flat (items f n 0)) ∧ Below w.heap.size w w' := by
  rcases hB with rfl | ⟨b, off, rfl, hc⟩
  · refine (decode_none ao cap w).mono ?_
    rintro e w' ⟨rfl, rfl⟩
    exact ⟨_, rfl, by rw [items_end f 0 0 (Nat.le_refl _)]; exact World.ownsRow_nil _ _ _ _, Below.refl _ _⟩
  · exact decode_some b off n cap f w hc hn hf

end Go.Proofs.Ytpdkdfgcnhcmkaa.utf
