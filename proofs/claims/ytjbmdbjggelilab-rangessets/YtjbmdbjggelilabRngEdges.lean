/- What ranges.edges and ranges.edgeAt answer; ranges.Size. -/
import Derived.Test.YtjbmdbjggelilabRngMake
set_option linter.unusedVariables false
set_option linter.unusedSimpArgs false
namespace Go.Proofs.Ytjbmdbjggelilab.rng
open Go.RowKit

/-- The cells of numbers. -/
def cellsI (l : List Int) : List Value := l.map (Value.int .i64)
def OwnI (w : World) (base : Nat) (v : Value) (l : List Int) : Prop := w.ownsRow base 3 1 v l.length (cellsI l)
theorem OwnI.below {w w' : World} {B : Nat} {v : Value} {l : List Int} (h : OwnI w B v l) (hb : Below w.heap.size w w') : OwnI w' B v l := own_below' h hb
/-- The numbers l can be read from the address on. -/
def IV (w : World) (ao : Option Addr) (l : List Int) : Prop :=
  l = [] ∨ ∃ b off, ao = some ⟨b, off, none⟩ ∧ ∀ i x, l[i]? = some x → w.cell? ⟨b, off + i, none⟩ = some (.int .i64 x)
theorem IV.below {w w' : World} {ao : Option Addr} {l : List Int} (h : IV w ao l) (hb : Below w.heap.size w w') : IV w' ao l := by
  rcases h with h | ⟨b, off, rfl, h⟩
  · exact .inl h
  · exact .inr ⟨b, off, rfl, fun i p hi => (hb.cell (World.block_lt_of_cell? w _ (h i p hi))).trans (h i p hi)⟩
theorem IV.some {w : World} {ao : Option Addr} {l : List Int} (h : IV w ao l) (h0 : 0 < l.length) : ∃ b off, ao = some ⟨b, off, none⟩ ∧ ∀ i x, l[i]? = Option.some x → w.cell? ⟨b, off + i, none⟩ = Option.some (.int .i64 x) := by
  rcases h with rfl | h
  · simp at h0
  · exact h
theorem OwnI.view {w : World} {B : Nat} {v : Value} {l : List Int} (h : OwnI w B v l) : ∃ ao cap, v = .slice ao l.length cap ∧ IV w ao l ∧ l.length ≤ cap ∧ cap ≤ maxLen := by
  rcases h.2 with ⟨rfl, h0⟩ | ⟨g, cap, cur, rfl, hg, hgg, hc, hm, hs, ht⟩
  · exact ⟨none, 0, by rw [h0], .inl (List.eq_nil_of_length_eq_zero h0), by omega, by unfold maxLen; omega⟩
  · refine ⟨_, cap, rfl, .inr ⟨g, 0, rfl, fun i x hi => ?_⟩, hc, hm⟩
    have hil : i < l.length := (List.getElem?_eq_some_iff.1 hi).1
    have h' : w.ownsRow B 3 1 (.slice (some ⟨g, 0, none⟩) l.length cap) l.length (cellsI l) := h
    rw [Nat.zero_add]
    refine (h'.cellAt _ (by omega)).trans ?_
    unfold cellsI
    rw [List.getElem?_map, hi]; rfl

theorem two_int (w : World) (o : Obj) (x y : Value) (t : TypeId) : ∀ (j : Nat) (u : Value), [x, y][j]? = some u → ((w.alloc o).alloc (Obj.cells #[x, y] t)).cell? ((⟨w.heap.size + 1, 0, none⟩ : Addr).add j) = some u := two_new w o x y t

set_option maxHeartbeats 1000000 in
theorem edges_any (ao : Option Addr) (cap : Nat) (l : List R) (w : World) (hn : l.length ≤ 1000000) (hv : RV w ao l) :
    Calls Try.prog 25 #[.slice ao l.length cap] w fun e w' => ∃ v r, e = .returned v ∧ OwnI w' w.heap.size v (ed r) ∧ IsSet r (has l) ∧ Below w.heap.size w w' := by
  obtain ⟨i0, hi, hz0, hz1, hz2⟩ := info_parts infoInt
  have C := make_any ao cap l w hn hv
  clear hn hv
  generalize l.length = n0 at C ⊢
  go_enter Try.func25, Try.ntmps25
  go_wp2_with fail
  refine C.mono ?_
  rintro e w1 ⟨v1, s, rfl, ho1, hset, hb1⟩
  obtain ⟨a1, c1, rfl, hv1, hc1, hm1⟩ := Own.view ho1
  have HV : Hid (RV w1 a1 s) := hv1
  have HS : Hid (IsSet s (has l)) := hset
  have HG : Hid (∀ p ∈ s, 0 ≤ p.1 ∧ p.1 ≤ p.2 ∧ p.2 ≤ 1114111) := can_mem (Int.le_refl _) hset.1
  have hsn : s.length ≤ 1000000 := by have := can_len hset.1; omega
  obtain ⟨m, hl⟩ : ∃ m, s.length = m := ⟨_, rfl⟩
  rw [hl] at hsn ⊢
  have HL : Hid (s.length = m) := hl
  have hbs := hb1.size
  clear C ho1 hset hv1 hl hm1 hc1
  go_wp2
  go_loopw [3, 9] (fun v i wr => ∃ (k : Nat), k ≤ m ∧ i = .int .i64 k ∧ wr.ownsRow w1.heap.size 3 1 v (2 * k) (cellsI (ed (s.take k))) ∧ Below w1.heap.size w1 wr) (fun _ i _ => m - (intOf i).toNat)
  case atStart => exact ⟨0, Nat.zero_le _, rfl, World.ownsRow_nil _ _ _ _, Below.refl _ _⟩
  case round =>
    obtain ⟨k, hk, rfl, hown, hbel⟩ := hrel
    have hs1 := hbel.size
    by_cases hlt : k < m
    · obtain ⟨x, y, hp⟩ := get_lt HL.out hlt
      obtain ⟨b, off, rfl, hc⟩ := (HV.out.below hbel).some (by have := HL.out; omega)
      obtain ⟨c1, c2⟩ := hc k (x, y) hp
      simp only at c1 c2
      have hx := HG.out (x, y) (List.mem_of_getElem? hp)
      simp only at hx
      obtain ⟨hx0, hxy, hy1⟩ := hx
      have HT : Hid (cellsI (ed (s.take (k + 1))) = cellsI (ed (s.take k)) ++ [.int .i64 x, .int .i64 (y + 1)]) := by
        unfold Hid; rw [take_get hp, ed_snoc]; simp [cellsI]
      clear hc hp
      have HW : Hid (∀ j, u3.ownBlock = some j → w1.heap.size ≤ j) := fun j e => (hown.lt _ e).1
      go_wp2_with (at_builtin; refine wpList_append_own _ rfl _ _ 36 rfl w1.heap.size 3 i0 (.int .i64 0) 1 8 Try.underlying36 hi hz0 hz1 hz2 rfl (by decide) _ _ _ rfl ((hown.alloc _).alloc _) ⟨wr.heap.size + 1, 0, none⟩ 2 2 [.int .i64 x, .int .i64 (y + 1)] rfl rfl ?c1 ?c2 ?c3 ?c4 ?c5 ?_)
      case c1 => exact two_int wr _ _ _ _
      case c2 => intro u hu; simp at hu; rcases hu with rfl | rfl <;> rfl
      case c3 => unfold maxLen; omega
      case c4 => omega
      case c5 => simp; omega
      · intro v' w2 hown2 hgrow _
        have R2 := Below.grown ((hbel.alloc hs1 (.cells #[.int .i64 x, .int .i64 y] 30)).alloc (by simp; omega) (.cells #[.int .i64 x, .int .i64 (y + 1)] 3)) hgrow (by simp; omega) HW.out
        have R1 : w2.ownsRow w1.heap.size 3 1 v' (2 * (k + 1)) (cellsI (ed (s.take (k + 1)))) := by
          rw [HT.out]; exact hown2
        clear hown2 hgrow hown hbel
        go_wp2
        go_roundw
        case rel => exact ⟨k + 1, by omega, by go_num, R1, R2⟩
        case measure => simp [intOf]; omega
    · go_wp2
      go_ret
      have e1 : s.take k = s := List.take_of_length_le (by have := HL.out; omega)
      rw [e1] at hown
      have e2 : (ed s).length = 2 * k := by rw [ed_length, HL.out]; omega
      refine ⟨_, s, rfl, ?_, HS.out, hb1.trans (hbel.mono hbs)⟩
      unfold OwnI; rw [e2]
      exact own_mono hown hbs

theorem eat_get {l : List Int} {i : Nat} {x : Int} (h : l[i]? = some x) : eat l i = x := by unfold eat; rw [List.getD_eq_getElem?_getD, h]; rfl
theorem edgeAt_any (ao : Option Addr) (cap : Nat) (l : List Int) (i : Nat) (w : World) (hn : l.length ≤ 4000000) (hi : i ≤ l.length) (hv : IV w ao l) :
    Calls Try.prog 26 #[.slice ao l.length cap, .int .i64 i] w fun e w' => e = .returned (.int .i64 (eat l i)) ∧ w' = w := by
  rcases Nat.lt_or_ge i l.length with h | h
  · obtain ⟨b, off, rfl, hc⟩ := hv.some (by omega)
    have hx : l[i]? = some l[i] := List.getElem?_eq_getElem h
    have hcell := hc i _ hx
    rw [eat_get hx]
    generalize l[i] = x at *
    generalize l.length = n at *
    have hne : ((i : Int) == (n : Int)) = false := by simp; omega
    clear hc hx hv
    go_enter Try.func26, Try.ntmps26
    go_wp2
    go_ret
    exact ⟨rfl, rfl⟩
  · have e : i = l.length := by omega
    rw [eat_end h, e]
    clear hv hi h e
    generalize l.length = n at *
    have hne : ((n : Int) == (n : Int)) = true := by simp
    go_enter Try.func26, Try.ntmps26
    go_wp2
    go_ret
    exact ⟨rfl, rfl⟩

end Go.Proofs.Ytjbmdbjggelilab.rng
