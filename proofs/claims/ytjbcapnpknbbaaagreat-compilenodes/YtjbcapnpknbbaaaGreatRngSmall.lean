/- What slices.Equal answers of two rows of the same ranges; ranges.Has, the document's Has and in, ranges.Can; the four ways of two sets. -/
import Derived.Test.YtjbcapnpknbbaaaGreatRngMem
set_option linter.unusedVariables false
set_option linter.unusedSimpArgs false
namespace Go.Proofs.YtjbcapnpknbbaaaGreat.rng
open Go.RowKit

theorem get_lt {l : List R} {n k : Nat} (h : l.length = n) (hk : k < n) : ∃ x y, l[k]? = some (x, y) := by
  subst h; exact ⟨_, _, List.getElem?_eq_getElem hk⟩
theorem drop_get {l : List R} {k : Nat} {x y : Int} (h : l[k]? = some (x, y)) : l.drop k = (x, y) :: l.drop (k + 1) := by
  obtain ⟨hk, e⟩ := List.getElem?_eq_some_iff.1 h
  rw [List.drop_eq_getElem_cons hk, e]
theorem take_get {l : List R} {k : Nat} {x y : Int} (h : l[k]? = some (x, y)) : l.take (k + 1) = l.take k ++ [(x, y)] := by
  obtain ⟨hk, e⟩ := List.getElem?_eq_some_iff.1 h
  rw [List.take_succ_eq_append_getElem hk, e]

theorem equal_same (a1 a2 : Option Addr) (c1 c2 : Nat) (l : List R) (w : World) (hn : l.length ≤ 1000000000) (h1 : RV w a1 l) (h2 : RV w a2 l) :
    Calls Tryz.prog 26 #[.slice a1 l.length c1, .slice a2 l.length c2] w fun e w' => e = .returned (.bool true) ∧ Below w.heap.size w w' := by
  have H1 : Hid (RV w a1 l) := h1
  have H2 : Hid (RV w a2 l) := h2
  obtain ⟨n, hl⟩ : ∃ n, l.length = n := ⟨_, rfl⟩
  rw [hl] at hn ⊢
  have HL : Hid (l.length = n) := hl
  clear h1 h2 hl
  have hnn : ((n : Int) != (n : Int)) = false := by simp
  go_enter Tryz.func26, Tryz.ntmps26
  go_wp2
  go_loopw [13] (fun i wr => ∃ k : Nat, k ≤ n ∧ i = .int .i64 k ∧ ∃ q, wr = w.drewN q) (fun i _ => n - (intOf i).toNat)
  case atStart => exact ⟨0, Nat.zero_le _, rfl, 0, rfl⟩
  case round =>
    obtain ⟨k, hk, rfl, q, rfl⟩ := hrel
    by_cases hlt : k < n
    · have hlt' : (k : Int) < (n : Int) := by omega
      obtain ⟨x, y, hp⟩ := get_lt HL.out hlt
      obtain ⟨b1, o1, rfl, k1⟩ := H1.out.some (by have := HL.out; omega)
      obtain ⟨b2, o2, rfl, k2⟩ := H2.out.some (by have := HL.out; omega)
      obtain ⟨p1, p2⟩ := k1 k (x, y) hp
      obtain ⟨q1, q2⟩ := k2 k (x, y) hp
      simp only at p1 p2 q1 q2
      clear k1 k2 hp
      go_wp2
      go_quiet (fail)
      go_wp2
      go_roundw
      case rel => exact ⟨k + 1, by omega, by go_num, _, rfl⟩
      case measure => simp [intOf]; omega
    · go_wp2
      go_ret
      exact ⟨rfl, below_drewN (Below.refl _ _) _⟩

theorem has_no {l : List R} {r : Int} (h : r < 0 ∨ 1114111 < r) : has l r = false := by
  cases t : has l r
  · rfl
  · have := (code_iff r).1 (has_code t); omega

set_option maxHeartbeats 400000 in
theorem rhas_any (ao : Option Addr) (cap : Nat) (l : List R) (r : Int) (w : World) (hn : l.length ≤ 8796093021952) (hv : RV w ao l) :
    Calls Tryz.prog 108 #[.slice ao l.length cap, .int .i64 r] w fun e w' => e = .returned (.bool (has l r)) ∧ Below w.heap.size w w' := by
  have HV : Hid (RV w ao l) := hv
  obtain ⟨n, hl⟩ : ∃ n, l.length = n := ⟨_, rfl⟩
  rw [hl] at hn ⊢
  have HL : Hid (l.length = n) := hl
  clear hv hl
  go_enter Tryz.func108, Tryz.ntmps108
  go_wp2
  go_loopw [9] (fun i wr => ∃ k : Nat, k ≤ n ∧ i = .int .i64 k ∧ Hid (has (l.drop k) r = has l r) ∧ Below w.heap.size w wr) (fun i _ => n - (intOf i).toNat)
  case atStart => exact ⟨0, Nat.zero_le _, rfl, rfl, Below.refl _ _⟩
  case round =>
    obtain ⟨k, hk, rfl, HD, hbel⟩ := hrel
    by_cases hlt : k < n
    · obtain ⟨x, y, hp⟩ := get_lt HL.out hlt
      obtain ⟨b, off, rfl, hc⟩ := (HV.out.below hbel).some (by have := HL.out; omega)
      obtain ⟨c1, c2⟩ := hc k (x, y) hp
      simp only at c1 c2
      have HN : Hid (has (l.drop k) r = (code r && inP (x, y) r || has (l.drop (k + 1)) r)) := by
        unfold Hid; rw [drop_get hp, has_cons]
      clear hc hp
      by_cases t : (0 ≤ r ∧ r ≤ 1114111) ∧ x ≤ r ∧ r ≤ y
      · obtain ⟨⟨t0, t3⟩, t1, t2⟩ := t
        have HE : Hid (has l r = true) := by
          unfold Hid; rw [← HD.out, HN.out, (inP_iff (x, y) r).2 ⟨t1, t2⟩, (code_iff r).2 ⟨t0, t3⟩]; rfl
        clear HD HN
        go_wp2
        go_ret
        exact ⟨ret_bool HE.out.symm, hbel.alloc hbel.size _⟩
      · have HE : Hid (has (l.drop (k + 1)) r = has l r) := by
          unfold Hid; rw [← HD.out, HN.out]
          have : (code r && inP (x, y) r) = false := by
            rw [Bool.eq_false_iff]; intro h; rw [Bool.and_eq_true, code_iff, inP_iff] at h; exact t h
          rw [this]; rfl
        have R1 := hbel.alloc hbel.size (.cells #[.int .i64 x, .int .i64 y] 44)
        clear HD HN
        have key : ∀ wz : World, Below w.heap.size w wz → ∃ k' : Nat, k' ≤ n ∧ Value.int .i64 ((k : Int) + 1) = .int .i64 k' ∧ Hid (has (l.drop k') r = has l r) ∧ Below w.heap.size w wz := fun wz hz => ⟨k + 1, by omega, by go_num, HE, hz⟩
        by_cases t0 : 0 ≤ r
        · by_cases t3 : r ≤ 1114111
          · by_cases t1 : x ≤ r
            · have t2 : ¬ r ≤ y := fun h => t ⟨⟨t0, t3⟩, t1, h⟩
              clear t
              go_wp2
              go_roundw
              case rel => exact key _ R1
              case measure => simp [intOf]; omega
            · clear t
              go_wp2
              go_roundw
              case rel => exact key _ R1
              case measure => simp [intOf]; omega
          · clear t
            go_wp2
            go_roundw
            case rel => exact key _ R1
            case measure => simp [intOf]; omega
        · clear t
          go_wp2
          go_roundw
          case rel => exact key _ R1
          case measure => simp [intOf]; omega
    · go_wp2
      go_ret
      exact ⟨ret_bool (by rw [← HD.out, List.drop_of_length_le (by have := HL.out; omega), has_nil]), hbel⟩

set_option maxHeartbeats 400000 in
theorem can_any (ao : Option Addr) (cap : Nat) (l : List R) (w : World) (hn : l.length ≤ 1000000000) (hv : RV w ao l) :
    Calls Tryz.prog 69 #[.slice ao l.length cap] w fun e w' => e = .returned (.bool (canB 0 l)) ∧ Below w.heap.size w w' := by
  have HV : Hid (RV w ao l) := hv
  obtain ⟨n, hl⟩ : ∃ n, l.length = n := ⟨_, rfl⟩
  rw [hl] at hn ⊢
  have HL : Hid (l.length = n) := hl
  clear hv hl
  go_enter Tryz.func69, Tryz.ntmps69
  go_wp2
  go_loopw [3, 8] (fun fr i wr => ∃ (k : Nat) (lo : Int), k ≤ n ∧ i = .int .i64 k ∧ fr = .int .i64 lo ∧ 0 ≤ lo ∧ Hid (canB lo (l.drop k) = canB 0 l) ∧ Below w.heap.size w wr) (fun _ i _ => n - (intOf i).toNat)
  case atStart => exact ⟨0, 0, Nat.zero_le _, rfl, rfl, by omega, rfl, Below.refl _ _⟩
  case round =>
    obtain ⟨k, lo, hk, rfl, rfl, hlo, HD, hbel⟩ := hrel
    by_cases hlt : k < n
    · obtain ⟨x, y, hp⟩ := get_lt HL.out hlt
      obtain ⟨b, off, rfl, hc⟩ := (HV.out.below hbel).some (by have := HL.out; omega)
      obtain ⟨c1, c2⟩ := hc k (x, y) hp
      simp only at c1 c2
      have HN : Hid (canB lo (l.drop k) = (decide (lo ≤ x ∧ x ≤ y ∧ y ≤ 1114111) && canB (y + 2) (l.drop (k + 1)))) := by
        unfold Hid; rw [drop_get hp, canB]
      have R1 := hbel.alloc hbel.size (.cells #[.int .i64 x, .int .i64 y] 44)
      clear hc hp
      by_cases t1 : x < lo
      · have HE : Hid (canB 0 l = false) := by
          unfold Hid; rw [← HD.out, HN.out, decide_eq_false (by omega)]; rfl
        clear HD HN
        go_wp2
        go_ret
        exact ⟨ret_bool HE.out.symm, R1⟩
      · by_cases t2 : y < x
        · have HE : Hid (canB 0 l = false) := by
            unfold Hid; rw [← HD.out, HN.out, decide_eq_false (by omega)]; rfl
          clear HD HN
          go_wp2
          go_ret
          exact ⟨ret_bool HE.out.symm, R1⟩
        · by_cases t3 : 1114111 < y
          · have HE : Hid (canB 0 l = false) := by
              unfold Hid; rw [← HD.out, HN.out, decide_eq_false (by omega)]; rfl
            clear HD HN
            go_wp2
            go_ret
            exact ⟨ret_bool HE.out.symm, R1⟩
          · have HE : Hid (canB (y + 2) (l.drop (k + 1)) = canB 0 l) := by
              unfold Hid; rw [← HD.out, HN.out, decide_eq_true (by omega)]; rfl
            have hy0 : 0 ≤ y := by omega
            have hy1 : y ≤ 1114111 := by omega
            clear HD HN
            go_wp2
            go_roundw
            case rel => exact ⟨k + 1, _, by omega, by go_num, rfl, by omega, HE, R1⟩
            case measure => simp [intOf]; omega
    · go_wp2
      go_ret
      exact ⟨ret_bool (by rw [← HD.out, List.drop_of_length_le (by have := HL.out; omega)]; rfl), hbel⟩

/-- The four ways of two sets. -/
def way (k : Nat) (x y : Bool) : Bool := if k = 0 then x || y else if k = 1 then x && y else if k = 2 then x && !y else (x != y)
theorem in_any (a1 a2 : Option Addr) (c1 c2 : Nat) (l m : List R) (kind : Nat) (r : Int) (w : World) (hk : kind ≤ 3) (hn : l.length ≤ 8796093021952) (hm : m.length ≤ 8796093021952) (h1 : RV w a1 l) (h2 : RV w a2 m) :
    Calls Tryz.prog 106 #[.slice a1 l.length c1, .slice a2 m.length c2, .int .i64 kind, .int .i64 r] w fun e w' => e = .returned (.bool (way kind (has l r) (has m r))) ∧ Below w.heap.size w w' := by
  have C1 := fun W (h : RV W a1 l) => rhas_any a1 c1 l r W hn h
  have C2 := fun W (h : RV W a2 m) => rhas_any a2 c2 m r W hm h
  have H1 : Hid (RV w a1 l) := h1
  have H2 : Hid (RV w a2 m) := h2
  clear h1 h2
  generalize has l r = x at *
  generalize has m r = y at *
  generalize l.length = n1 at *
  generalize m.length = n2 at *
  rcases (show kind = 0 ∨ kind = 1 ∨ kind = 2 ∨ kind = 3 by omega) with rfl | rfl | rfl | rfl
  all_goals
    go_enter Tryz.func106, Tryz.ntmps106
    go_wp2_with fail
    refine (C1 _ H1.out).mono ?_
    rintro e w1 ⟨rfl, hb1⟩
    go_wp2_with fail
    refine (C2 _ (H2.out.below hb1)).mono ?_
    rintro e w2 ⟨rfl, hb2⟩
    have hb := hb1.trans (hb2.mono hb1.size)
    clear C1 C2 hb1 hb2
    cases x <;> cases y <;> (go_wp2; go_ret; exact ⟨rfl, hb⟩)
end Go.Proofs.YtjbcapnpknbbaaaGreat.rng
