/- Texts that the proof leans on, one behind the other. -/
import Derived.Test.YtjbcapnpknbbaaaGreatBndNodMem
import Derived.Test.YtjbcapnpknbbaaaGreatRngSmall
import Derived.Deep.RegionWith
import Derived.Laws.AppendOwnNone

section
/- Whether a tree is one of sets: lower.Plain at any node. -/
set_option linter.unusedVariables false
set_option linter.unusedSimpArgs false
namespace Go.Proofs.YtjbcapnpknbbaaaGreat.low
open Go.RowKit nod
open Go.Proofs.YtjbcapnpknbbaaaGreat.rng (R RV canB nxt ret_int ret_bool below_drewN info_parts own_below' get_lt take_get)

def wi (x lo hi : Int) : Bool := decide (lo ≤ x) && decide (x ≤ hi)
def repP (m a b : Int) : Bool := wi m 0 2 && wi a 0 100 && ((b == -1) || wi b a 100)
/-- May the node stand in a tree of sets, its kids apart. -/
def standP (k m a b : Int) (s : List R) (nk : Nat) : Bool :=
  if k = 15 then canB 0 s else if k = 6 ∨ k = 14 then true else if k = 7 then decide (0 < nk) else if k = 8 then repP m a b && decide (nk = 1) else if k = 9 then wi a 0 20 && decide (nk = 1) else if k = 10 then wi m 0 3 && decide (nk = 1) else if k = 11 then decide (nk = 1) else if k = 12 then wi m 1 10 else if k = 13 then wi a 1 20 else false
def kidsP (k : Int) : Bool := decide (k = 6 ∨ k = 7 ∨ k = 8 ∨ k = 9 ∨ k = 10 ∨ k = 11)
mutual
/-- Is the node, so deep, a tree of sets. -/
def plN : Nd → Int → Bool
  | .mk k m a b g n s ks, d => decide (d ≤ 400) && standP k m a b s ks.length && (!kidsP k || plL ks (d + 1))
def plL : List Nd → Int → Bool
  | [], _ => true
  | t :: ts, d => plN t d && plL ts d
end
theorem plL_all : ∀ (ks : List Nd) (d : Int), plL ks d = ks.all (fun t => plN t d)
  | [], _ => by rw [plL]; rfl
  | t :: ts, d => by rw [plL, plL_all ts d]; rfl

theorem within_any (x lo hi : Int) (w : World) : Calls Tryz.prog 74 #[.int .i64 x, .int .i64 lo, .int .i64 hi] w fun e w' => e = .returned (.bool (wi x lo hi)) ∧ w' = w := by
  unfold wi
  by_cases h1 : lo ≤ x
  · by_cases h2 : x ≤ hi
    · go_enter Tryz.func74, Tryz.ntmps74
      go_wp2
      go_ret
      exact ⟨by simp [h1, h2], rfl⟩
    · go_enter Tryz.func74, Tryz.ntmps74
      go_wp2
      go_ret
      exact ⟨by simp [h1, h2], rfl⟩
  · go_enter Tryz.func74, Tryz.ntmps74
    go_wp2
    go_ret
    exact ⟨by rw [show decide (lo ≤ x) = false from decide_eq_false (by omega)]; rfl, rfl⟩
theorem has_any (k : Int) (w : World) : Calls Tryz.prog 36 #[.int .i64 k] w fun e w' => e = .returned (.bool (kidsP k)) ∧ w' = w := by
  by_cases c6 : k = 6
  · subst c6; go_enter Tryz.func36, Tryz.ntmps36; go_wp2; go_ret; exact ⟨rfl, rfl⟩
  by_cases c7 : k = 7
  · subst c7; go_enter Tryz.func36, Tryz.ntmps36; go_wp2; go_ret; exact ⟨rfl, rfl⟩
  by_cases c8 : k = 8
  · subst c8; go_enter Tryz.func36, Tryz.ntmps36; go_wp2; go_ret; exact ⟨rfl, rfl⟩
  by_cases c9 : k = 9
  · subst c9; go_enter Tryz.func36, Tryz.ntmps36; go_wp2; go_ret; exact ⟨rfl, rfl⟩
  by_cases c10 : k = 10
  · subst c10; go_enter Tryz.func36, Tryz.ntmps36; go_wp2; go_ret; exact ⟨rfl, rfl⟩
  by_cases c11 : k = 11
  · subst c11; go_enter Tryz.func36, Tryz.ntmps36; go_wp2; go_ret; exact ⟨rfl, rfl⟩
  have HE : Hid (kidsP k = false) := by unfold Hid kidsP; simp; omega
  have f6 : (k == 6) = false := by simpa using c6
  have f7 : (k == 7) = false := by simpa using c7
  have f8 : (k == 8) = false := by simpa using c8
  have f9 : (k == 9) = false := by simpa using c9
  have f10 : (k == 10) = false := by simpa using c10
  have f11 : (k == 11) = false := by simpa using c11
  clear c6 c7 c8 c9 c10 c11
  go_enter Tryz.func36, Tryz.ntmps36
  go_wp2
  go_ret
  exact ⟨by rw [HE.out]; rfl, rfl⟩
set_option maxHeartbeats 4000000 in
set_option maxRecDepth 10000 in
theorem repeat_any (k m a b : Int) (g : Bool) (n : ByteArray) (sv kv : Value) (w : World) : Calls Tryz.prog 73 #[.agg #[.int .i64 k, .int .i64 m, .int .i64 a, .int .i64 b, .bool g, .string n, sv, kv]] w fun e w' => e = .returned (.bool (repP m a b)) ∧ Below w.heap.size w w' := by
  have HB : Hid (Below w.heap.size w (w.alloc (.cells #[.int .i64 k, .int .i64 m, .int .i64 a, .int .i64 b, .bool g, .string n, sv, kv] 25))) := (Below.refl _ w).alloc (Nat.le_refl _) _
  have C1 := fun W => within_any m 0 2 W
  have C2 := fun W => within_any a 0 100 W
  have C3 := fun W => within_any b a 100 W
  unfold repP
  generalize wi m 0 2 = x1 at *
  generalize wi a 0 100 = x2 at *
  generalize wi b a 100 = x3 at *
  cases x1 with
  | false =>
    clear C2 C3
    go_enter Tryz.func73, Tryz.ntmps73
    go_wp2_with (go_at_call 74; refine (C1 _).mono ?_; rintro e w1 ⟨rfl, rfl⟩; clear C1)
    go_ret
    exact ⟨rfl, HB.out⟩
  | true =>
    cases x2 with
    | false =>
      clear C3
      go_enter Tryz.func73, Tryz.ntmps73
      go_wp2_with (go_at_call 74; first | (refine (C1 _).mono ?_; rintro e w1 ⟨rfl, rfl⟩; clear C1) | (refine (C2 _).mono ?_; rintro e w1 ⟨rfl, rfl⟩; clear C2))
      go_ret
      exact ⟨rfl, HB.out⟩
    | true =>
      by_cases hb : b = -1
      · subst hb
        clear C3
        go_enter Tryz.func73, Tryz.ntmps73
        go_wp2_with (go_at_call 74; first | (refine (C1 _).mono ?_; rintro e w1 ⟨rfl, rfl⟩; clear C1) | (refine (C2 _).mono ?_; rintro e w1 ⟨rfl, rfl⟩; clear C2))
        go_ret
        exact ⟨rfl, HB.out⟩
      · have f : (b == -1) = false := by simpa using hb
        rw [f]
        clear hb
        go_enter Tryz.func73, Tryz.ntmps73
        go_wp2_with (go_at_call 74; first | (refine (C1 _).mono ?_; rintro e w1 ⟨rfl, rfl⟩; clear C1) | (refine (C2 _).mono ?_; rintro e w1 ⟨rfl, rfl⟩; clear C2) | (refine (C3 _).mono ?_; rintro e w1 ⟨rfl, rfl⟩; clear C3))
        go_ret
        exact ⟨rfl, HB.out⟩
theorem can_take {l : List R} {k : Nat} {p : R} (h : l[k]? = some p) : (canB 0 (l.take (k + 1)) = true ↔ canB 0 (l.take k) = true ∧ nxt 0 (l.take k) ≤ p.1 ∧ p.1 ≤ p.2 ∧ p.2 ≤ 1114111) ∧ nxt 0 (l.take (k + 1)) = p.2 + 2 := by
  have aux : ∀ (q : List R) (lo : Int), (canB lo (q ++ [p]) = true ↔ canB lo q = true ∧ nxt lo q ≤ p.1 ∧ p.1 ≤ p.2 ∧ p.2 ≤ 1114111) ∧ nxt lo (q ++ [p]) = p.2 + 2 := by
    intro q
    induction q with
    | nil => intro lo; exact ⟨by simp [canB, nxt], rfl⟩
    | cons x q ih => intro lo; obtain ⟨i1, i2⟩ := ih (x.2 + 2); exact ⟨by simp [canB, nxt, i1, and_assoc], by simp only [List.cons_append, nxt, i2]⟩
  rw [takeX h]
  exact aux _ 0
theorem nxt_nonneg : ∀ (q : List R), canB 0 q = true → (0 : Int) ≤ nxt 0 q := by
  have aux : ∀ (q : List R) (lo : Int), 0 ≤ lo → canB lo q = true → 0 ≤ nxt lo q := by
    intro q
    induction q with
    | nil => intro lo h _; exact h
    | cons x q ih =>
      intro lo h hc
      simp only [canB, Bool.and_eq_true, decide_eq_true_eq] at hc
      exact ih (x.2 + 2) (by omega) hc.2
  exact fun q h => aux q 0 (by omega) h
theorem can_cut {l : List R} (k : Nat) (h : canB 0 (l.take k) = false) : canB 0 l = false := by
  have aux : ∀ (q r : List R) (lo : Int), canB lo q = false → canB lo (q ++ r) = false := by
    intro q
    induction q with
    | nil => intro r lo h; simp [canB] at h
    | cons x q ih =>
      intro r lo h
      simp only [List.cons_append, canB, Bool.and_eq_false_iff] at h ⊢
      exact h.imp id (ih r _)
  have := aux (l.take k) (l.drop k) 0 h
  rwa [List.take_append_drop] at this
set_option maxHeartbeats 4000000 in
set_option maxRecDepth 10000 in
theorem isset_any (ao : Option Addr) (cap : Nat) (l : List R) (w : World) (hn : l.length ≤ 9223372036854775807) (hv : RV w ao l) :
    Calls Tryz.prog 72 #[.slice ao l.length cap] w fun e w' => e = .returned (.bool (canB 0 l)) ∧ Below w.heap.size w w' := by
  have HV : Hid (RV w ao l) := hv
  obtain ⟨n, hl⟩ : ∃ n, l.length = n := ⟨_, rfl⟩
  rw [hl] at hn ⊢
  have HL : Hid (l.length = n) := hl
  clear hv hl
  go_enter Tryz.func72, Tryz.ntmps72
  go_wp2
  go_loopw [3, 8] (fun f i wr => ∃ (k : Nat) (fr : Int), k ≤ n ∧ i = .int .i64 k ∧ f = .int .i64 fr ∧ Hid (fr = nxt 0 (l.take k)) ∧ Hid (canB 0 (l.take k) = true) ∧ Below w.heap.size w wr) (fun _ i _ => n - (intOf i).toNat)
  case atStart => exact ⟨0, 0, Nat.zero_le _, rfl, rfl, rfl, rfl, Below.refl _ _⟩
  case round =>
    obtain ⟨k, fr, hk, rfl, rfl, HF, HC, hbel⟩ := hrel
    by_cases hlt : k < n
    · obtain ⟨x, y, hp⟩ := get_lt HL.out hlt
      obtain ⟨bb, off, rfl, hc⟩ := (HV.out.below hbel).some (by have := HL.out; omega)
      obtain ⟨c1, c2⟩ := hc k (x, y) hp
      simp only at c1 c2
      have hbs := hbel.size
      have HB2 : Hid (Below w.heap.size w (wr.alloc (.cells #[.int .i64 x, .int .i64 y] 44))) := hbel.alloc hbs _
      obtain ⟨t1, t2⟩ := can_take hp
      by_cases hok : fr ≤ x ∧ x ≤ y ∧ y ≤ 1114111
      · have HT1 : Hid (canB 0 (l.take (k + 1)) = true) := by
          exact t1.2 ⟨HC.out, by rw [← HF.out]; exact hok⟩
        have HT2 : Hid (nxt 0 (l.take (k + 1)) = y + 2) := t2
        obtain ⟨o1, o2, o3⟩ := hok
        have q1 : ¬ x < fr := by omega
        have q2 : ¬ x > y := by omega
        have q3 : ¬ y > 1114111 := by omega
        have q4 : -9223372036854775808 ≤ y + 2 ∧ y + 2 ≤ 9223372036854775807 := by
          have : 0 ≤ x ∨ x < 0 := by omega
          constructor
          · have h0 : (0 : Int) ≤ nxt 0 (l.take k) := nxt_nonneg _ HC.out
            rw [← HF.out] at h0; omega
          · omega
        clear hc hp t1 t2 HC HF
        go_wp2
        go_roundw
        case rel => exact ⟨k + 1, y + 2, by omega, by go_num, by go_num, by unfold Hid; exact HT2.out.symm, HT1, HB2.out⟩
        case measure => simp [intOf]; omega
      · have HE : Hid (canB 0 l = false) := can_cut (k + 1) (by rw [Bool.eq_false_iff]; intro h; exact hok (by rw [HF.out]; exact (t1.1 h).2))
        clear hc hp t1 t2 HC HF
        by_cases q1 : x < fr
        · clear hok
          go_wp2
          go_ret
          exact ⟨ret_bool HE.out.symm, HB2.out⟩
        by_cases q2 : x > y
        · clear hok
          go_wp2
          go_ret
          exact ⟨ret_bool HE.out.symm, HB2.out⟩
        · have q3 : y > 1114111 := by omega
          clear hok
          go_wp2
          go_ret
          exact ⟨ret_bool HE.out.symm, HB2.out⟩
    · have e1 : l.take k = l := List.take_of_length_le (by have := HL.out; omega)
      have HE : Hid (canB 0 l = true) := by have := HC.out; rw [e1] at this; exact this
      clear HC HF e1
      go_wp2
      go_ret
      exact ⟨ret_bool HE.out.symm, hbel⟩
set_option maxHeartbeats 8000000 in
set_option maxRecDepth 10000 in
theorem stand_any (k m a b : Int) (g : Bool) (n : ByteArray) (sa : Option Addr) (st : List R) (sc : Nat) (ao : Option Addr) (nk cap : Nat) (w : World) (hs : RV w sa st) (hsn : st.length ≤ 9223372036854775807) (hnk : nk ≤ 9223372036854775807) :
    Calls Tryz.prog 35 #[.agg #[.int .i64 k, .int .i64 m, .int .i64 a, .int .i64 b, .bool g, .string n, .slice sa st.length sc, .slice ao nk cap]] w fun e w' => e = .returned (.bool (standP k m a b st nk)) ∧ Below w.heap.size w w' := by
  have B1 : Below w.heap.size w (w.alloc (.cells #[.int .i64 k, .int .i64 m, .int .i64 a, .int .i64 b, .bool g, .string n, .slice sa st.length sc, .slice ao nk cap] 25)) := (Below.refl _ w).alloc (Nat.le_refl _) _
  have HB : Hid (Below w.heap.size w (w.alloc (.cells #[.int .i64 k, .int .i64 m, .int .i64 a, .int .i64 b, .bool g, .string n, .slice sa st.length sc, .slice ao nk cap] 25))) := B1
  have CI := isset_any sa sc st (w.alloc (.cells #[.int .i64 k, .int .i64 m, .int .i64 a, .int .i64 b, .bool g, .string n, .slice sa st.length sc, .slice ao nk cap] 25)) hsn (hs.below B1)
  have CR := repeat_any k m a b g n (.slice sa st.length sc) (.slice ao nk cap) (w.alloc (.cells #[.int .i64 k, .int .i64 m, .int .i64 a, .int .i64 b, .bool g, .string n, .slice sa st.length sc, .slice ao nk cap] 25))
  clear hs B1
  unfold standP
  generalize canB 0 st = x15 at *
  generalize st.length = sl at *
  by_cases c15 : k = 15
  · subst c15
    rw [if_pos rfl]
    go_enter Tryz.func35, Tryz.ntmps35
    go_wp2_with (go_at_call 72; refine CI.mono ?_; rintro e w1 ⟨rfl, d⟩; have HD : Hid (Below w.heap.size w w1) := HB.out.trans (below_less d (by simp)); clear d)
    go_ret
    exact ⟨rfl, HD.out⟩
  by_cases c6 : k = 6
  · subst c6
    go_enter Tryz.func35, Tryz.ntmps35
    go_wp2
    go_ret
    exact ⟨rfl, HB.out⟩
  by_cases c14 : k = 14
  · subst c14
    go_enter Tryz.func35, Tryz.ntmps35
    go_wp2
    go_ret
    exact ⟨rfl, HB.out⟩
  by_cases c7 : k = 7
  · subst c7
    by_cases z : 0 < nk
    · have z1 : (nk : Int) > 0 := by omega
      go_enter Tryz.func35, Tryz.ntmps35
      go_wp2
      go_ret
      exact ⟨by simp [z], HB.out⟩
    · have z1 : ¬ (nk : Int) > 0 := by omega
      go_enter Tryz.func35, Tryz.ntmps35
      go_wp2
      go_ret
      exact ⟨by simp [z], HB.out⟩
  by_cases c8 : k = 8
  · subst c8
    by_cases z : nk = 1
    · subst z
      generalize repP m a b = x at *
      cases x <;> (
        go_enter Tryz.func35, Tryz.ntmps35
        go_wp2_with (go_at_call 73; refine CR.mono ?_; rintro e w1 ⟨rfl, d⟩; have HD : Hid (Below w.heap.size w w1) := HB.out.trans (below_less d (by simp)); have x7 := ((Bk.new w #[.int .i64 8, .int .i64 m, .int .i64 a, .int .i64 b, .bool g, .string n, .slice sa sl sc, .slice ao 1 cap] 25).on d).cell 7 (u := .slice ao 1 cap) rfl; clear d)
        go_ret
        exact ⟨rfl, HD.out⟩)
    · have z1 : ((nk : Int) == 1) = false := by simp; omega
      rw [decide_eq_false z]
      clear z
      generalize repP m a b = x at *
      cases x <;> (
        go_enter Tryz.func35, Tryz.ntmps35
        go_wp2_with (go_at_call 73; refine CR.mono ?_; rintro e w1 ⟨rfl, d⟩; have HD : Hid (Below w.heap.size w w1) := HB.out.trans (below_less d (by simp)); have x7 := ((Bk.new w #[.int .i64 8, .int .i64 m, .int .i64 a, .int .i64 b, .bool g, .string n, .slice sa sl sc, .slice ao nk cap] 25).on d).cell 7 (u := .slice ao nk cap) rfl; clear d)
        go_ret
        exact ⟨rfl, HD.out⟩)
  by_cases c9 : k = 9
  · subst c9
    by_cases z : nk = 1
    · subst z
      have C1 := fun W => within_any a 0 20 W
      generalize wi a 0 20 = x at *
      cases x <;> (
        go_enter Tryz.func35, Tryz.ntmps35
        go_wp2_with (go_at_call 74; refine (C1 _).mono ?_; rintro e w1 ⟨rfl, rfl⟩)
        go_ret
        exact ⟨rfl, HB.out⟩)
    · have z1 : ((nk : Int) == 1) = false := by simp; omega
      rw [decide_eq_false z]
      clear z
      have C1 := fun W => within_any a 0 20 W
      generalize wi a 0 20 = x at *
      cases x <;> (
        go_enter Tryz.func35, Tryz.ntmps35
        go_wp2_with (go_at_call 74; refine (C1 _).mono ?_; rintro e w1 ⟨rfl, rfl⟩)
        go_ret
        exact ⟨rfl, HB.out⟩)
  by_cases c10 : k = 10
  · subst c10
    by_cases z : nk = 1
    · subst z
      have C1 := fun W => within_any m 0 3 W
      generalize wi m 0 3 = x at *
      cases x <;> (
        go_enter Tryz.func35, Tryz.ntmps35
        go_wp2_with (go_at_call 74; refine (C1 _).mono ?_; rintro e w1 ⟨rfl, rfl⟩)
        go_ret
        exact ⟨rfl, HB.out⟩)
    · have z1 : ((nk : Int) == 1) = false := by simp; omega
      rw [decide_eq_false z]
      clear z
      have C1 := fun W => within_any m 0 3 W
      generalize wi m 0 3 = x at *
      cases x <;> (
        go_enter Tryz.func35, Tryz.ntmps35
        go_wp2_with (go_at_call 74; refine (C1 _).mono ?_; rintro e w1 ⟨rfl, rfl⟩)
        go_ret
        exact ⟨rfl, HB.out⟩)
  by_cases c11 : k = 11
  · subst c11
    by_cases z : nk = 1
    · subst z
      go_enter Tryz.func35, Tryz.ntmps35
      go_wp2
      go_ret
      exact ⟨rfl, HB.out⟩
    · have z1 : ((nk : Int) == 1) = false := by simp; omega
      rw [decide_eq_false z]
      clear z
      go_enter Tryz.func35, Tryz.ntmps35
      go_wp2
      go_ret
      exact ⟨rfl, HB.out⟩
  by_cases c12 : k = 12
  · subst c12
    have C1 := fun W => within_any m 1 10 W
    go_enter Tryz.func35, Tryz.ntmps35
    go_wp2_with (go_at_call 74; refine (C1 _).mono ?_; rintro e w1 ⟨rfl, rfl⟩)
    go_ret
    exact ⟨rfl, HB.out⟩
  by_cases c13 : k = 13
  · subst c13
    have C1 := fun W => within_any a 1 20 W
    go_enter Tryz.func35, Tryz.ntmps35
    go_wp2_with (go_at_call 74; refine (C1 _).mono ?_; rintro e w1 ⟨rfl, rfl⟩)
    go_ret
    exact ⟨rfl, HB.out⟩
  rw [if_neg c15, if_neg (by omega), if_neg c7, if_neg c8, if_neg c9, if_neg c10, if_neg c11, if_neg c12, if_neg c13]
  have f15 : (k == 15) = false := by simpa using c15
  have f6 : (k == 6) = false := by simpa using c6
  have f14 : (k == 14) = false := by simpa using c14
  have f7 : (k == 7) = false := by simpa using c7
  have f8 : (k == 8) = false := by simpa using c8
  have f9 : (k == 9) = false := by simpa using c9
  have f10 : (k == 10) = false := by simpa using c10
  have f11 : (k == 11) = false := by simpa using c11
  have f12 : (k == 12) = false := by simpa using c12
  have f13 : (k == 13) = false := by simpa using c13
  clear c15 c6 c14 c7 c8 c9 c10 c11 c12 c13
  go_enter Tryz.func35, Tryz.ntmps35
  go_wp2
  go_ret
  exact ⟨rfl, HB.out⟩
end Go.Proofs.YtjbcapnpknbbaaaGreat.low
end

section
/- Programs of trees as plain lists: pieces, how they are moved and laid one behind the other. -/
set_option linter.unusedVariables false
set_option linter.unusedSimpArgs false
namespace Go.Proofs.YtjbcapnpknbbaaaGreat.cmp
open Go.RowKit nod
open Go.Proofs.YtjbcapnpknbbaaaGreat.rng (R)

/-- An instruction. -/
structure Is (α : Type) where
  op : Int
  x : Int
  y : Int
  mn : Int
  mx : Int
  set : α
variable {α β : Type}
def Is.map (f : α → β) (i : Is α) : Is β := ⟨i.op, i.x, i.y, i.mn, i.mx, f i.set⟩
/-- So many places, and marks, further on. -/
def mv (p m : Int) (i : Is α) : Is α :=
  if i.op = 2 then ⟨i.op, i.x + p, i.y + p, i.mn, i.mx, i.set⟩ else if i.op = 3 then ⟨i.op, i.x + p, i.y, i.mn, i.mx, i.set⟩ else if i.op = 10 then ⟨i.op, i.x + m, i.y, i.mn, i.mx, i.set⟩ else if i.op = 11 then ⟨i.op, i.x + m, i.y + p, i.mn, i.mx, i.set⟩ else if i.op = 8 ∨ i.op = 9 then ⟨i.op, i.x, i.y + p, i.mn, i.mx, i.set⟩ else i
theorem mv_op (p m : Int) (i : Is α) : (mv p m i).op = i.op := by
  unfold mv; split <;> try rfl
  split <;> try rfl
  split <;> try rfl
  split <;> try rfl
  split <;> rfl
theorem mv_map (f : α → β) (p m : Int) (i : Is α) : (mv p m i).map f = mv p m (i.map f) := by
  unfold mv Is.map
  split
  · rfl
  split
  · rfl
  split
  · rfl
  split
  · rfl
  split <;> rfl
theorem mv_zero (i : Is α) : mv 0 0 i = i := by
  cases i; unfold mv; simp only [Int.add_zero, ite_self]
theorem mv_mv (p m p' m' : Int) (i : Is α) : mv p m (mv p' m' i) = mv (p' + p) (m' + m) i := by
  obtain ⟨o, x, y, mn, mx, s⟩ := i
  unfold mv
  by_cases h2 : o = 2
  · simp only [h2, if_true, Int.add_assoc]
  by_cases h3 : o = 3
  · simp [h3, Int.add_assoc]
  by_cases h10 : o = 10
  · simp [h10, Int.add_assoc]
  by_cases h11 : o = 11
  · simp [h11, Int.add_assoc]
  by_cases h8 : o = 8 ∨ o = 9
  · simp [h2, h3, h10, h11, h8, Int.add_assoc]
  · simp [h2, h3, h10, h11, h8]

/-- A piece: its instructions, and how many marks it has. -/
abbrev Pc (α : Type) : Type := List (Is α) × Int
def addP (a b : Pc α) : Pc α := (a.1 ++ b.1.map (mv a.1.length a.2), a.2 + b.2)
def oneP (i : Is α) : Pc α := ([i], 0)
def rowP (l : List (Pc α)) : Pc α := l.foldl addP ([], 0)
def putP (a : Pc α) (l : List (Is α)) : Pc α := (a.1 ++ l, a.2)
theorem addP_zero (a : Pc α) : addP a ([], 0) = a := by simp [addP]
theorem map_zero (l : List (Is α)) : l.map (mv 0 0) = l := by
  induction l with
  | nil => rfl
  | cons i l ih => rw [List.map_cons, ih, mv_zero]
theorem zero_addP (a : Pc α) : addP ([], 0) a = a := by simp [addP, map_zero]
theorem addP_assoc (a b c : Pc α) : addP (addP a b) c = addP a (addP b c) := by
  unfold addP
  simp only [List.append_assoc, List.length_append, List.length_map, List.map_append, List.map_map, Int.add_assoc]
  congr 3
  apply List.map_congr_left
  intro i _
  simp only [Function.comp, mv_mv]
  congr 1 <;> omega
theorem foldl_addP (l : List (Pc α)) (a : Pc α) : l.foldl addP a = addP a (rowP l) := by
  unfold rowP
  induction l generalizing a with
  | nil => simp [addP_zero]
  | cons x l ih => rw [List.foldl_cons, List.foldl_cons, ih, ih (addP ([], 0) x), zero_addP, addP_assoc]
theorem rowP_cons (x : Pc α) (l : List (Pc α)) : rowP (x :: l) = addP x (rowP l) := by
  show (x :: l).foldl addP ([], 0) = _
  rw [List.foldl_cons, foldl_addP, zero_addP]
theorem rowP_nil : rowP ([] : List (Pc α)) = ([], 0) := rfl
theorem rowP_append (l m : List (Pc α)) : rowP (l ++ m) = addP (rowP l) (rowP m) := by
  show (l ++ m).foldl addP ([], 0) = _
  rw [List.foldl_append, foldl_addP]; rfl
theorem len_addP (a b : Pc α) : (addP a b).1.length = a.1.length + b.1.length := by simp [addP]

/-- An instruction of one operation, with the set e. -/
def ins (e : α) (op x y : Int) : Is α := ⟨op, x, y, 0, 0, e⟩
def savedP (e : α) (k : Int) (kid : Pc α) : Pc α := rowP [oneP (ins e 4 (2 * k) 0), kid, oneP (ins e 4 (2 * k + 1) 0)]
def blockP (e : α) (i : Is α) (kid : Pc α) : Pc α := rowP [oneP ⟨i.op, i.x, (kid.1.length : Int) + 2, i.mn, i.mx, i.set⟩, kid, oneP (ins e 12 0 0)]
def splitI (e : α) (mode on out : Int) : Is α := if mode = 1 then ins e 2 out on else ins e 2 on out
def loopP (e : α) (mode : Int) (kid : Pc α) : Pc α :=
  putP (addP ([splitI e mode 1 ((kid.1.length : Int) + 4), ins e 10 0 0], 1) kid) [ins e 11 0 ((kid.1.length : Int) + 4), ins e 3 0 0]
/-- So many times one behind the other. -/
def timesP : Nat → Pc α → Pc α
  | 0, _ => ([], 0)
  | n + 1, k => addP (timesP n k) k
/-- So many times perhaps. -/
def mayP (e : α) (mode out : Int) (kid : Pc α) : Nat → Pc α → Pc α
  | 0, a => a
  | n + 1, a => mayP e mode out kid n (addP (putP a [splitI e mode ((a.1.length : Int) + 1) out]) kid)
/-- A repetition that is not possessive. -/
def repP (e : α) (mode a b : Int) (kid : Pc α) : Pc α :=
  if b = -1 then addP (timesP a.toNat kid) (loopP e mode kid) else mayP e mode (a * kid.1.length + (b - a) * ((kid.1.length : Int) + 1)) kid (b - a).toNat (timesP a.toNat kid)
def chGo (e : α) (out : Int) : List (Pc α) → Pc α → Pc α
  | [], a => a
  | [k], a => addP a k
  | k :: k2 :: ks, a => chGo e out (k2 :: ks) (putP (addP (putP a [ins e 2 ((a.1.length : Int) + 1) ((a.1.length : Int) + k.1.length + 2)]) k) [ins e 3 out 0])
def lensP (l : List (Pc α)) : Nat := (l.map (·.1.length)).sum
/-- Alternatives. -/
def choiceP (e : α) (l : List (Pc α)) : Pc α := chGo e (2 * ((l.length : Int) - 1) + lensP l) l ([], 0)

theorem len_timesP (k : Pc α) : ∀ n, (timesP n k).1.length = n * k.1.length
  | 0 => by simp [timesP]
  | n + 1 => by rw [timesP, len_addP, len_timesP k n, Nat.succ_mul]
theorem len_mayP (e : α) (mode out : Int) (k : Pc α) : ∀ n (a : Pc α), (mayP e mode out k n a).1.length = a.1.length + n * (k.1.length + 1)
  | 0, a => by simp [mayP]
  | n + 1, a => by rw [mayP, len_mayP e mode out k n, len_addP]; simp [putP, Nat.succ_mul]; omega
theorem len_loopP (e : α) (mode : Int) (k : Pc α) : (loopP e mode k).1.length = k.1.length + 4 := by
  simp [loopP, putP, len_addP]; omega
theorem len_chGo (e : α) (out : Int) : ∀ (l : List (Pc α)) (a : Pc α), (chGo e out l a).1.length = a.1.length + lensP l + 2 * (l.length - 1)
  | [], a => by simp [chGo, lensP]
  | [k], a => by simp [chGo, lensP, len_addP]
  | k :: k2 :: ks, a => by
    rw [chGo, len_chGo e out (k2 :: ks)]
    simp [putP, len_addP, lensP]; omega
  termination_by l => l.length
end Go.Proofs.YtjbcapnpknbbaaaGreat.cmp
end
