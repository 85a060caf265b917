/- Texts that the proof leans on, one behind the other. -/
import Derived.Test.YtnjomfmdogkhgaaGreatDoorProg
import Derived.Test.YtnjomfmdogkhgaaGreatDoorBnd8
import Derived.WalkKit
import Derived.WalkSpells
import Derived.WalkLawsBesides
import Derived.Outline
import Derived.Deep.QuietTactic
import Derived.BigQuiet

section
/- Lists of ranges in memory: rows of the call's own, and rows that are read; slices.Equal and short. -/
set_option linter.unusedVariables false
set_option linter.unusedSimpArgs false
namespace Go.Proofs.YtnjomfmdogkhgaaGreatDoor.rng
open Go.RowKit

theorem ret_int {k : IntKind} {a b : Int} (h : a = b) : Ending.returned (.int k a) = .returned (.int k b) := by rw [h]
theorem ret_bool {a b : Bool} (h : a = b) : Ending.returned (.bool a) = .returned (.bool b) := by rw [h]
theorem below_drewN {B : Nat} {a w : World} (h : Below B a w) (q : Nat) : Below B a (w.drewN q) := ⟨h.os, h.tape, h.output, h.size, h.block⟩
theorem info_parts {P : Program} {t : TypeId} {z : Value} {s b : Nat} (h : (P.info? t).map (fun i => (i.zero, i.size, i.bytes)) = some (some z, s, b)) : ∃ i, P.info? t = some i ∧ i.zero = some z ∧ i.size = s ∧ i.bytes = b := by
  cases hi : P.info? t with
  | none => rw [hi] at h; cases h
  | some i => rw [hi] at h; simp at h; exact ⟨i, rfl, h.1, h.2.1, h.2.2⟩
theorem infoRange : (Tryz.prog.info? 40).map (fun i => (i.zero, i.size, i.bytes)) = some (some (.agg #[.int .i64 0, .int .i64 0]), 2, 16) := by kernel_rfl
theorem infoInt : (Tryz.prog.info? 3).map (fun i => (i.zero, i.size, i.bytes)) = some (some (.int .i64 0), 1, 8) := by kernel_rfl

/-- The cells of ranges. -/
def flat (l : List R) : List Value := l.flatMap fun p => [.int .i64 p.1, .int .i64 p.2]
theorem flat_cons (p : R) (l : List R) : flat (p :: l) = .int .i64 p.1 :: .int .i64 p.2 :: flat l := rfl
theorem flat_append (l r : List R) : flat (l ++ r) = flat l ++ flat r := by simp [flat]
theorem flat_length (l : List R) : (flat l).length = l.length * 2 := by
  induction l with
  | nil => rfl
  | cons x l ih => rw [flat_cons]; simp; omega
theorem flat_get : ∀ (l : List R) (i : Nat) (p : R), l[i]? = some p → (flat l)[i * 2]? = some (.int .i64 p.1) ∧ (flat l)[i * 2 + 1]? = some (.int .i64 p.2)
  | [], i, p, h => by simp at h
  | x :: l, 0, p, h => by simp at h; subst h; exact ⟨rfl, rfl⟩
  | x :: l, i + 1, p, h => by
    have := flat_get l i p (by simpa using h)
    rw [flat_cons, show (i + 1) * 2 = i * 2 + 1 + 1 from by omega]
    simpa using this
theorem flat_one (l : List R) : ∀ u ∈ flat l, u.oneCell' = true := by
  intro u hu
  unfold flat at hu
  obtain ⟨q, hq, hu⟩ := List.mem_flatMap.1 hu
  simp only [List.mem_cons, List.mem_nil_iff, or_false] at hu
  rcases hu with rfl | rfl <;> rfl

/-- v is a row of the call's own, of ranges l. -/
def Own (w : World) (base : Nat) (v : Value) (l : List R) : Prop := w.ownsRow base 40 2 v l.length (flat l)
theorem own_below' {w w' : World} {B e size n : Nat} {v : Value} {xs : List Value} (h : w.ownsRow B e size v n xs) (hb : Below w.heap.size w w') : w'.ownsRow B e size v n xs := by
  refine ⟨h.1, ?_⟩
  rcases h.2 with hn | ⟨g, cap, cur, rfl, hg, hgg, rest⟩
  · exact .inl hn
  · exact .inr ⟨g, cap, cur, rfl, hg, by rw [hb.block g (Array.getElem?_eq_some_iff.1 hgg).1]; exact hgg, rest⟩
theorem Own.below {w w' : World} {B : Nat} {v : Value} {l : List R} (h : Own w B v l) (hb : Below w.heap.size w w') : Own w' B v l := own_below' h hb
theorem Own.nil (w : World) (B : Nat) : Own w B (.slice none 0 0) [] := World.ownsRow_nil _ _ _ _

/-- The ranges l can be read from the address on. -/
def RV (w : World) (ao : Option Addr) (l : List R) : Prop :=
  l = [] ∨ ∃ b off, ao = some ⟨b, off, none⟩ ∧ ∀ i p, l[i]? = some p → w.cell? ⟨b, off + i * 2, none⟩ = some (.int .i64 p.1) ∧ w.cell? ⟨b, off + i * 2 + 1, none⟩ = some (.int .i64 p.2)
theorem RV.nil (w : World) (ao : Option Addr) : RV w ao [] := .inl rfl
theorem RV.below {w w' : World} {ao : Option Addr} {l : List R} (h : RV w ao l) (hb : Below w.heap.size w w') : RV w' ao l := by
  rcases h with h | ⟨b, off, rfl, h⟩
  · exact .inl h
  · exact .inr ⟨b, off, rfl, fun i p hi => by
      obtain ⟨h1, h2⟩ := h i p hi
      exact ⟨(hb.cell (World.block_lt_of_cell? w _ h1)).trans h1, (hb.cell (World.block_lt_of_cell? w _ h2)).trans h2⟩⟩
theorem RV.some {w : World} {ao : Option Addr} {l : List R} (h : RV w ao l) (h0 : 0 < l.length) : ∃ b off, ao = some ⟨b, off, none⟩ ∧ ∀ i p, l[i]? = Option.some p → w.cell? ⟨b, off + i * 2, none⟩ = Option.some (.int .i64 p.1) ∧ w.cell? ⟨b, off + i * 2 + 1, none⟩ = Option.some (.int .i64 p.2) := by
  rcases h with rfl | h
  · simp at h0
  · exact h
theorem RV.take {w : World} {ao : Option Addr} {l : List R} (h : RV w ao l) (n : Nat) : RV w ao (l.take n) := by
  rcases h with rfl | ⟨b, off, rfl, h⟩
  · exact .inl (by simp)
  · exact .inr ⟨b, off, rfl, fun i p hi => h i p (by rw [List.getElem?_take] at hi; split at hi; exact hi; cases hi)⟩
theorem Own.view {w : World} {B : Nat} {v : Value} {l : List R} (h : Own w B v l) : ∃ ao cap, v = .slice ao l.length cap ∧ RV w ao l ∧ l.length ≤ cap ∧ cap ≤ maxLen := by
  rcases h.2 with ⟨rfl, h0⟩ | ⟨g, cap, cur, rfl, hg, hgg, hc, hm, hs, ht⟩
  · exact ⟨none, 0, by rw [h0], .inl (List.eq_nil_of_length_eq_zero h0), by omega, by unfold maxLen; omega⟩
  · refine ⟨_, cap, rfl, .inr ⟨g, 0, rfl, fun i p hi => ?_⟩, hc, hm⟩
    obtain ⟨e1, e2⟩ := flat_get l i p hi
    have hil : i < l.length := (List.getElem?_eq_some_iff.1 hi).1
    have h' : w.ownsRow B 40 2 (.slice (some ⟨g, 0, none⟩) l.length cap) l.length (flat l) := h
    rw [Nat.zero_add]
    exact ⟨(h'.cellAt _ (by omega)).trans e1, (h'.cellAt _ (by omega)).trans e2⟩

end Go.Proofs.YtnjomfmdogkhgaaGreatDoor.rng
end

section
/- What slices.Equal answers of two rows of the same ranges; ranges.Has, the document's Has and in, ranges.Can; the four ways of two sets. -/
set_option linter.unusedVariables false
set_option linter.unusedSimpArgs false
namespace Go.Proofs.YtnjomfmdogkhgaaGreatDoor.rng
open Go.RowKit

theorem get_lt {l : List R} {n k : Nat} (h : l.length = n) (hk : k < n) : ∃ x y, l[k]? = some (x, y) := by
  subst h; exact ⟨_, _, List.getElem?_eq_getElem hk⟩
theorem drop_get {l : List R} {k : Nat} {x y : Int} (h : l[k]? = some (x, y)) : l.drop k = (x, y) :: l.drop (k + 1) := by
  obtain ⟨hk, e⟩ := List.getElem?_eq_some_iff.1 h
  rw [List.drop_eq_getElem_cons hk, e]
theorem take_get {l : List R} {k : Nat} {x y : Int} (h : l[k]? = some (x, y)) : l.take (k + 1) = l.take k ++ [(x, y)] := by
  obtain ⟨hk, e⟩ := List.getElem?_eq_some_iff.1 h
  rw [List.take_succ_eq_append_getElem hk, e]

theorem equal_same (a1 a2 : Option Addr) (c1 c2 : Nat) (l : List R) (w : World) (hn : l.length ≤ 1000000000) (h1 : RV w a1 l) (h2 : RV w a2 l) :
    Calls Tryz.prog 29 #[.slice a1 l.length c1, .slice a2 l.length c2] w fun e w' => e = .returned (.bool true) ∧ Below w.heap.size w w' := by
  have H1 : Hid (RV w a1 l) := h1
  have H2 : Hid (RV w a2 l) := h2
  obtain ⟨n, hl⟩ : ∃ n, l.length = n := ⟨_, rfl⟩
  rw [hl] at hn ⊢
  have HL : Hid (l.length = n) := hl
  clear h1 h2 hl
  have hnn : ((n : Int) != (n : Int)) = false := by simp
  go_enter Tryz.func29, Tryz.ntmps29
  go_wp2
  go_loopw [13] (fun i wr => ∃ k : Nat, k ≤ n ∧ i = .int .i64 k ∧ ∃ q, wr = w.drewN q) (fun i _ => n - (intOf i).toNat)
  case atStart => exact ⟨0, Nat.zero_le _, rfl, 0, rfl⟩
  case round =>
    obtain ⟨k, hk, rfl, q, rfl⟩ := hrel
    by_cases hlt : k < n
    · have hlt' : (k : Int) < (n : Int) := by omega
      obtain ⟨x, y, hp⟩ := get_lt HL.out hlt
      obtain ⟨b1, o1, rfl, k1⟩ := H1.out.some (by have := HL.out; omega)
      obtain ⟨b2, o2, rfl, k2⟩ := H2.out.some (by have := HL.out; omega)
      obtain ⟨p1, p2⟩ := k1 k (x, y) hp
      obtain ⟨q1, q2⟩ := k2 k (x, y) hp
      simp only at p1 p2 q1 q2
      clear k1 k2 hp
      go_wp2
      go_quiet (fail)
      go_wp2
      go_roundw
      case rel => exact ⟨k + 1, by omega, by go_num, _, rfl⟩
      case measure => simp [intOf]; omega
    · go_wp2
      go_ret
      exact ⟨rfl, below_drewN (Below.refl _ _) _⟩

theorem has_no {l : List R} {r : Int} (h : r < 0 ∨ 1114111 < r) : has l r = false := by
  cases t : has l r
  · rfl
  · have := (code_iff r).1 (has_code t); omega

set_option maxHeartbeats 400000 in
theorem rhas_any (ao : Option Addr) (cap : Nat) (l : List R) (r : Int) (w : World) (hn : l.length ≤ 1000000000) (hv : RV w ao l) :
    Calls Tryz.prog 30 #[.slice ao l.length cap, .int .i64 r] w fun e w' => e = .returned (.bool (has l r)) ∧ Below w.heap.size w w' := by
  have HV : Hid (RV w ao l) := hv
  obtain ⟨n, hl⟩ : ∃ n, l.length = n := ⟨_, rfl⟩
  rw [hl] at hn ⊢
  have HL : Hid (l.length = n) := hl
  clear hv hl
  go_enter Tryz.func30, Tryz.ntmps30
  go_wp2
  go_loopw [9] (fun i wr => ∃ k : Nat, k ≤ n ∧ i = .int .i64 k ∧ Hid (has (l.drop k) r = has l r) ∧ Below w.heap.size w wr) (fun i _ => n - (intOf i).toNat)
  case atStart => exact ⟨0, Nat.zero_le _, rfl, rfl, Below.refl _ _⟩
  case round =>
    obtain ⟨k, hk, rfl, HD, hbel⟩ := hrel
    by_cases hlt : k < n
    · obtain ⟨x, y, hp⟩ := get_lt HL.out hlt
      obtain ⟨b, off, rfl, hc⟩ := (HV.out.below hbel).some (by have := HL.out; omega)
      obtain ⟨c1, c2⟩ := hc k (x, y) hp
      simp only at c1 c2
      have HN : Hid (has (l.drop k) r = (code r && inP (x, y) r || has (l.drop (k + 1)) r)) := by
        unfold Hid; rw [drop_get hp, has_cons]
      clear hc hp
      by_cases t : (0 ≤ r ∧ r ≤ 1114111) ∧ x ≤ r ∧ r ≤ y
      · obtain ⟨⟨t0, t3⟩, t1, t2⟩ := t
        have HE : Hid (has l r = true) := by
          unfold Hid; rw [← HD.out, HN.out, (inP_iff (x, y) r).2 ⟨t1, t2⟩, (code_iff r).2 ⟨t0, t3⟩]; rfl
        clear HD HN
        go_wp2
        go_ret
        exact ⟨ret_bool HE.out.symm, hbel.alloc hbel.size _⟩
      · have HE : Hid (has (l.drop (k + 1)) r = has l r) := by
          unfold Hid; rw [← HD.out, HN.out]
          have : (code r && inP (x, y) r) = false := by
            rw [Bool.eq_false_iff]; intro h; rw [Bool.and_eq_true, code_iff, inP_iff] at h; exact t h
          rw [this]; rfl
        have R1 := hbel.alloc hbel.size (.cells #[.int .i64 x, .int .i64 y] 40)
        clear HD HN
        have key : ∀ wz : World, Below w.heap.size w wz → ∃ k' : Nat, k' ≤ n ∧ Value.int .i64 ((k : Int) + 1) = .int .i64 k' ∧ Hid (has (l.drop k') r = has l r) ∧ Below w.heap.size w wz := fun wz hz => ⟨k + 1, by omega, by go_num, HE, hz⟩
        by_cases t0 : 0 ≤ r
        · by_cases t3 : r ≤ 1114111
          · by_cases t1 : x ≤ r
            · have t2 : ¬ r ≤ y := fun h => t ⟨⟨t0, t3⟩, t1, h⟩
              clear t
              go_wp2
              go_roundw
              case rel => exact key _ R1
              case measure => simp [intOf]; omega
            · clear t
              go_wp2
              go_roundw
              case rel => exact key _ R1
              case measure => simp [intOf]; omega
          · clear t
            go_wp2
            go_roundw
            case rel => exact key _ R1
            case measure => simp [intOf]; omega
        · clear t
          go_wp2
          go_roundw
          case rel => exact key _ R1
          case measure => simp [intOf]; omega
    · go_wp2
      go_ret
      exact ⟨ret_bool (by rw [← HD.out, List.drop_of_length_le (by have := HL.out; omega), has_nil]), hbel⟩

/-- The four ways of two sets. -/
def way (k : Nat) (x y : Bool) : Bool := if k = 0 then x || y else if k = 1 then x && y else if k = 2 then x && !y else (x != y)
theorem in_any (a1 a2 : Option Addr) (c1 c2 : Nat) (l m : List R) (kind : Nat) (r : Int) (w : World) (hk : kind ≤ 3) (hn : l.length ≤ 1000000000) (hm : m.length ≤ 1000000000) (h1 : RV w a1 l) (h2 : RV w a2 m) :
    Calls Tryz.prog 122 #[.slice a1 l.length c1, .slice a2 m.length c2, .int .i64 kind, .int .i64 r] w fun e w' => e = .returned (.bool (way kind (has l r) (has m r))) ∧ Below w.heap.size w w' := by
  have C1 := fun W (h : RV W a1 l) => rhas_any a1 c1 l r W hn h
  have C2 := fun W (h : RV W a2 m) => rhas_any a2 c2 m r W hm h
  have H1 : Hid (RV w a1 l) := h1
  have H2 : Hid (RV w a2 m) := h2
  clear h1 h2
  generalize has l r = x at *
  generalize has m r = y at *
  generalize l.length = n1 at *
  generalize m.length = n2 at *
  rcases (show kind = 0 ∨ kind = 1 ∨ kind = 2 ∨ kind = 3 by omega) with rfl | rfl | rfl | rfl
  all_goals
    go_enter Tryz.func122, Tryz.ntmps122
    go_wp2_with fail
    refine (C1 _ H1.out).mono ?_
    rintro e w1 ⟨rfl, hb1⟩
    go_wp2_with fail
    refine (C2 _ (H2.out.below hb1)).mono ?_
    rintro e w2 ⟨rfl, hb2⟩
    have hb := hb1.trans (hb2.mono hb1.size)
    clear C1 C2 hb1 hb2
    cases x <;> cases y <;> (go_wp2; go_ret; exact ⟨rfl, hb⟩)
end Go.Proofs.YtnjomfmdogkhgaaGreatDoor.rng
end
