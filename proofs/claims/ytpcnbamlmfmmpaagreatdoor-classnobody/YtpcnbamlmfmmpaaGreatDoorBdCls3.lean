/- Texts that the proof leans on, one behind the other. -/
import Derived.Test.YtpcnbamlmfmmpaaGreatDoorBdCls2
import Derived.Test.YtpcnbamlmfmmpaaGreatDoorBdCls1

section
/- combined, anything. -/
set_option linter.unusedVariables false
set_option linter.unusedSimpArgs false
namespace Go.Proofs.YtpcnbamlmfmmpaaGreatDoor.cls
open Go.RowKit
open Go.Proofs.YtpcnbamlmfmmpaaGreatDoor.rng (R has IsSet Sl code CanF RV)
open Go.Proofs.YtpcnbamlmfmmpaaGreatDoor.dcp (sinL fullL)
open Go.Proofs.YtpcnbamlmfmmpaaGreatDoor.nod

/-- Sets and what they have, side by side. -/
def SetsOk : List St2 → List (Int → Prop) → Prop
  | [], [] => True
  | q :: L, P :: Ps => IsP q.2 P ∧ SetsOk L Ps
  | _, _ => False
theorem SetsOk.snoc : ∀ {L : List St2} {Ps : List (Int → Prop)}, SetsOk L Ps → ∀ {q : St2} {P : Int → Prop}, IsP q.2 P → SetsOk (L ++ [q]) (Ps ++ [P])
  | [], [], _, q, P, h => ⟨h, trivial⟩
  | x :: L, Q :: Ps, hs, q, P, h => ⟨hs.1, hs.2.snoc h⟩
  | [], _ :: _, hs, _, _, _ => hs.elim
  | _ :: _, [], hs, _, _, _ => hs.elim
theorem SetsOk.cat : ∀ {L : List St2} {Ps : List (Int → Prop)}, SetsOk L Ps → ∀ x, code x = true → (has (catL L) x = true ↔ ∃ P ∈ Ps, P x)
  | [], [], _, x, _ => by simp [catL, cls.cat, has]
  | q :: L, P :: Ps, hs, x, hx => by
    have h1 : catL (q :: L) = q.2 ++ catL L := rfl
    rw [h1, rng.has_append, Bool.or_eq_true, hs.1.2 x hx, hs.2.cat x hx]
    simp
  | [], _ :: _, hs, _, _ => hs.elim
  | _ :: _, [], hs, _, _ => hs.elim
theorem SetsOk.len : ∀ {L : List St2} {Ps : List (Int → Prop)}, SetsOk L Ps → ∀ q ∈ L, q.2.length ≤ 557056
  | [], [], _, q, h => by cases h
  | x :: L, P :: Ps, hs, q, h => by
    rcases List.mem_cons.1 h with rfl | h
    · exact hs.1.len
    · exact hs.2.len q h
  | [], _ :: _, hs, _, _ => hs.elim
  | _ :: _, [], hs, _, _ => hs.elim
theorem comb_two {m : Int} {q1 q2 : St2} {Ps : List (Int → Prop)} {r : List R} {K : Bool → Bool → Bool} (hs : SetsOk [q1, q2] Ps) (hr : IsSet r (fun x => K (has q1.2 x) (has q2.2 x))) (hK : ∀ P Q : Int → Prop, Ps = [P, Q] → ∀ x, code x = true → (has q1.2 x = true ↔ P x) → (has q2.2 x = true ↔ Q x) → (K (has q1.2 x) (has q2.2 x) = true ↔ combP m Ps x)) : IsP r (combP m Ps) := by
  match Ps, hs with
  | [P, Q], hs => exact isP_set hr (fun x hx => hK P Q rfl x hx (hs.1.2 x hx) (hs.2.1.2 x hx))
theorem sl_of {w : World} {A : Nat} {v : Value} {l : List R} (h : rng.Own w A v l) : ∃ a c, v = .slice a l.length c ∧ RV w a l := by
  obtain ⟨a, c, e, hv, _⟩ := h.view
  exact ⟨a, c, e, hv⟩
set_option maxHeartbeats 1000000 in
theorem combined_1 (B A : Nat) (v : Value) (q1 q2 : St2) (Ps : List (Int → Prop)) (w : World) (h : SO w B A v [q1, q2]) (hs : SetsOk [q1, q2] Ps) :
    Calls Tryz.prog 123 #[.int .i64 1, v] w fun e w' => ∃ v' r, e = .returned v' ∧ rng.Own w' w.heap.size v' r ∧ IsP r (combP 1 Ps) ∧ Below w.heap.size w w' := by
  obtain ⟨b, c, rfl, c0, o0⟩ := h.at_ (j := 0) (q := q1) rfl
  obtain ⟨b', c', e', c1, o1⟩ := h.at_ (j := 1) (q := q2) rfl
  injection e' with e1 e2 e3
  injection e1 with e1
  injection e1 with e4 e5 e6
  subst e4 e3
  have l1 := hs.len q1 (by simp)
  have l2 := hs.len q2 (by simp)
  obtain ⟨a1, x1, h1, v1⟩ := sl_of o0
  obtain ⟨a2, x2, h2, v2⟩ := sl_of o1
  rw [h1] at c0
  rw [h2] at c1
  have HC : Hid (∀ W, Below w.heap.size w W → Calls Tryz.prog 95 #[.slice a1 q1.2.length x1, .slice a2 q2.2.length x2] W fun e w' => ∃ v' r, e = .returned v' ∧ rng.Own w' W.heap.size v' r ∧ IsSet r (fun x => (fun a b => a && b) (has q1.2 x) (has q2.2 x)) ∧ Below W.heap.size W w') := fun W hb => rng.meet_any a1 a2 x1 x2 q1.2 q2.2 W (by omega) (by omega) (v1.below hb) (v2.below hb)
  have HF : Hid (∀ r, IsSet r (fun x => (fun a b => a && b) (has q1.2 x) (has q2.2 x)) → IsP r (combP 1 Ps)) := fun r hr => comb_two (K := fun a b => a && b) hs hr (fun P Q e x hx h1 h2 => by subst e; rw [show combP 1 [P, Q] x = (P x ∧ Q x) from rfl, ← h1, ← h2]; cases has q1.2 x <;> cases has q2.2 x <;> simp)
  have C0 : Hid (w.cell? ⟨b, 0, none⟩ = some (.slice a1 q1.2.length x1)) := c0
  have C1 : Hid (w.cell? ⟨b, 1, none⟩ = some (.slice a2 q2.2.length x2)) := c1
  clear h hs e2 e5 e6 l1 l2 o0 o1 h1 h2 v1 v2
  generalize q1.2.length = n1 at *
  generalize q2.2.length = n2 at *
  go_enter Tryz.func123, Tryz.ntmps123
  go_wp2
  go_region_held3 (fun w' => w'.cell? ⟨b, 0, none⟩ = some (.slice a1 n1 x1) ∧ w'.cell? ⟨b, 1, none⟩ = some (.slice a2 n2 x2)) (go_keep) (first
    | (go_at_call 95; refine (HC.out _ (Below.refl _ _).drew).mono ?_; rintro e w1 ⟨v1, r1, rfl, o1, i1, b0⟩; have O1 : Hid (rng.Own w1 w.heap.size v1 r1) := o1; have I1 : Hid (IsP r1 (combP 1 Ps)) := HF.out r1 i1; have b1 : Below w.heap.size w w1 := (Below.refl _ w).drew.trans b0; have B1 : Hid (Below w.heap.size w w1) := b1; have z0 := (b1.cell (World.block_lt_of_cell? w _ C0.out)).trans C0.out; have z1 := (b1.cell (World.block_lt_of_cell? w _ C1.out)).trans C1.out; clear o1 i1 b0 b1))
  all_goals go_wp2
  all_goals go_ret
  all_goals exact ⟨_, r1, rfl, O1.out, I1.out, B1.out⟩
set_option maxHeartbeats 1000000 in
theorem combined_2 (B A : Nat) (v : Value) (q1 q2 : St2) (Ps : List (Int → Prop)) (w : World) (h : SO w B A v [q1, q2]) (hs : SetsOk [q1, q2] Ps) :
    Calls Tryz.prog 123 #[.int .i64 2, v] w fun e w' => ∃ v' r, e = .returned v' ∧ rng.Own w' w.heap.size v' r ∧ IsP r (combP 2 Ps) ∧ Below w.heap.size w w' := by
  obtain ⟨b, c, rfl, c0, o0⟩ := h.at_ (j := 0) (q := q1) rfl
  obtain ⟨b', c', e', c1, o1⟩ := h.at_ (j := 1) (q := q2) rfl
  injection e' with e1 e2 e3
  injection e1 with e1
  injection e1 with e4 e5 e6
  subst e4 e3
  have l1 := hs.len q1 (by simp)
  have l2 := hs.len q2 (by simp)
  obtain ⟨a1, x1, h1, v1⟩ := sl_of o0
  obtain ⟨a2, x2, h2, v2⟩ := sl_of o1
  rw [h1] at c0
  rw [h2] at c1
  have HC : Hid (∀ W, Below w.heap.size w W → Calls Tryz.prog 158 #[.slice a1 q1.2.length x1, .slice a2 q2.2.length x2] W fun e w' => ∃ v' r, e = .returned v' ∧ rng.Own w' W.heap.size v' r ∧ IsSet r (fun x => (fun a b => a && !b) (has q1.2 x) (has q2.2 x)) ∧ Below W.heap.size W w') := fun W hb => rng.minus_any a1 a2 x1 x2 q1.2 q2.2 W (by omega) (by omega) (v1.below hb) (v2.below hb)
  have HF : Hid (∀ r, IsSet r (fun x => (fun a b => a && !b) (has q1.2 x) (has q2.2 x)) → IsP r (combP 2 Ps)) := fun r hr => comb_two (K := fun a b => a && !b) hs hr (fun P Q e x hx h1 h2 => by subst e; rw [show combP 2 [P, Q] x = (P x ∧ ¬ Q x) from rfl, ← h1, ← h2]; cases has q1.2 x <;> cases has q2.2 x <;> simp)
  have C0 : Hid (w.cell? ⟨b, 0, none⟩ = some (.slice a1 q1.2.length x1)) := c0
  have C1 : Hid (w.cell? ⟨b, 1, none⟩ = some (.slice a2 q2.2.length x2)) := c1
  clear h hs e2 e5 e6 l1 l2 o0 o1 h1 h2 v1 v2
  generalize q1.2.length = n1 at *
  generalize q2.2.length = n2 at *
  go_enter Tryz.func123, Tryz.ntmps123
  go_wp2
  go_region_held3 (fun w' => w'.cell? ⟨b, 0, none⟩ = some (.slice a1 n1 x1) ∧ w'.cell? ⟨b, 1, none⟩ = some (.slice a2 n2 x2)) (go_keep) (first
    | (go_at_call 158; refine (HC.out _ (Below.refl _ _).drew).mono ?_; rintro e w1 ⟨v1, r1, rfl, o1, i1, b0⟩; have O1 : Hid (rng.Own w1 w.heap.size v1 r1) := o1; have I1 : Hid (IsP r1 (combP 2 Ps)) := HF.out r1 i1; have b1 : Below w.heap.size w w1 := (Below.refl _ w).drew.trans b0; have B1 : Hid (Below w.heap.size w w1) := b1; have z0 := (b1.cell (World.block_lt_of_cell? w _ C0.out)).trans C0.out; have z1 := (b1.cell (World.block_lt_of_cell? w _ C1.out)).trans C1.out; clear o1 i1 b0 b1))
  all_goals go_wp2
  all_goals go_ret
  all_goals exact ⟨_, r1, rfl, O1.out, I1.out, B1.out⟩
set_option maxHeartbeats 1000000 in
theorem combined_3 (B A : Nat) (v : Value) (q1 q2 : St2) (Ps : List (Int → Prop)) (w : World) (h : SO w B A v [q1, q2]) (hs : SetsOk [q1, q2] Ps) :
    Calls Tryz.prog 123 #[.int .i64 3, v] w fun e w' => ∃ v' r, e = .returned v' ∧ rng.Own w' w.heap.size v' r ∧ IsP r (combP 3 Ps) ∧ Below w.heap.size w w' := by
  obtain ⟨b, c, rfl, c0, o0⟩ := h.at_ (j := 0) (q := q1) rfl
  obtain ⟨b', c', e', c1, o1⟩ := h.at_ (j := 1) (q := q2) rfl
  injection e' with e1 e2 e3
  injection e1 with e1
  injection e1 with e4 e5 e6
  subst e4 e3
  have l1 := hs.len q1 (by simp)
  have l2 := hs.len q2 (by simp)
  obtain ⟨a1, x1, h1, v1⟩ := sl_of o0
  obtain ⟨a2, x2, h2, v2⟩ := sl_of o1
  rw [h1] at c0
  rw [h2] at c1
  have HC : Hid (∀ W, Below w.heap.size w W → Calls Tryz.prog 166 #[.slice a1 q1.2.length x1, .slice a2 q2.2.length x2] W fun e w' => ∃ v' r, e = .returned v' ∧ rng.Own w' W.heap.size v' r ∧ IsSet r (fun x => (fun a b => a != b) (has q1.2 x) (has q2.2 x)) ∧ Below W.heap.size W w') := fun W hb => rng.xor_any a1 a2 x1 x2 q1.2 q2.2 W (by omega) (by omega) (v1.below hb) (v2.below hb)
  have HF : Hid (∀ r, IsSet r (fun x => (fun a b => a != b) (has q1.2 x) (has q2.2 x)) → IsP r (combP 3 Ps)) := fun r hr => comb_two (K := fun a b => a != b) hs hr (fun P Q e x hx h1 h2 => by subst e; rw [show combP 3 [P, Q] x = ¬ (P x ↔ Q x) from rfl, ← h1, ← h2]; cases has q1.2 x <;> cases has q2.2 x <;> simp)
  have C0 : Hid (w.cell? ⟨b, 0, none⟩ = some (.slice a1 q1.2.length x1)) := c0
  have C1 : Hid (w.cell? ⟨b, 1, none⟩ = some (.slice a2 q2.2.length x2)) := c1
  clear h hs e2 e5 e6 l1 l2 o0 o1 h1 h2 v1 v2
  generalize q1.2.length = n1 at *
  generalize q2.2.length = n2 at *
  go_enter Tryz.func123, Tryz.ntmps123
  go_wp2
  go_region_held3 (fun w' => w'.cell? ⟨b, 0, none⟩ = some (.slice a1 n1 x1) ∧ w'.cell? ⟨b, 1, none⟩ = some (.slice a2 n2 x2)) (go_keep) (first
    | (go_at_call 166; refine (HC.out _ (Below.refl _ _).drew).mono ?_; rintro e w1 ⟨v1, r1, rfl, o1, i1, b0⟩; have O1 : Hid (rng.Own w1 w.heap.size v1 r1) := o1; have I1 : Hid (IsP r1 (combP 3 Ps)) := HF.out r1 i1; have b1 : Below w.heap.size w w1 := (Below.refl _ w).drew.trans b0; have B1 : Hid (Below w.heap.size w w1) := b1; have z0 := (b1.cell (World.block_lt_of_cell? w _ C0.out)).trans C0.out; have z1 := (b1.cell (World.block_lt_of_cell? w _ C1.out)).trans C1.out; clear o1 i1 b0 b1))
  all_goals go_wp2
  all_goals go_ret
  all_goals exact ⟨_, r1, rfl, O1.out, I1.out, B1.out⟩
set_option maxHeartbeats 1000000 in
theorem combined_0 (B A : Nat) (v : Value) (L : List St2) (Ps : List (Int → Prop)) (w : World) (h : SO w B A v L) (hs : SetsOk L Ps) (hn : L.length ≤ 350) :
    Calls Tryz.prog 123 #[.int .i64 0, v] w fun e w' => ∃ v' r, e = .returned v' ∧ rng.Own w' w.heap.size v' r ∧ IsP r (combP 0 Ps) ∧ Below w.heap.size w w' := by
  have hcl := catL_len hs.len hn
  have C := join_any B A v L w h (by omega) (by omega)
  have HF : Hid (∀ r, IsSet r (has (catL L)) → IsP r (combP 0 Ps)) := fun r hr => isP_set hr (fun x hx => by rw [hs.cat x hx]; rfl)
  obtain ⟨ua, uc, hu⟩ := lin.own_slice h.row
  subst hu
  clear h hs hcl
  generalize L.length = n at *
  go_enter Tryz.func123, Tryz.ntmps123
  go_wp2_with fail
  refine C.mono ?_
  rintro e w1 ⟨v1, r1, rfl, o1, i1, b1⟩
  clear C
  have O1 : Hid (rng.Own w1 w.heap.size v1 r1) := o1
  have I1 : Hid (IsP r1 (combP 0 Ps)) := HF.out r1 i1
  clear o1 i1
  go_wp2
  go_ret
  exact ⟨_, r1, rfl, O1.out, I1.out, b1⟩
theorem combined_any (B A : Nat) (m : Int) (v : Value) (L : List St2) (Ps : List (Int → Prop)) (w : World) (h : SO w B A v L) (hs : SetsOk L Ps) (hn : L.length ≤ 350) (hm : classK m L.length = true) :
    Calls Tryz.prog 123 #[.int .i64 m, v] w fun e w' => ∃ v' r, e = .returned v' ∧ rng.Own w' w.heap.size v' r ∧ IsP r (combP m Ps) ∧ Below w.heap.size w w' := by
  by_cases h0 : m = 0
  · subst h0; exact combined_0 B A v L Ps w h hs hn
  have h2 : (m = 1 ∨ m = 2 ∨ m = 3) ∧ L.length = 2 := by
    unfold classK at hm
    simp [h0] at hm
    omega
  obtain ⟨hm2, hl⟩ := h2
  match L, hl with
  | [q1, q2], _ =>
    rcases hm2 with rfl | rfl | rfl
    · exact combined_1 B A v q1 q2 Ps w h hs
    · exact combined_2 B A v q1 q2 Ps w h hs
    · exact combined_3 B A v q1 q2 Ps w h hs
theorem SO.lit {w : World} {A : Nat} {L : List St2} (h : ∀ q ∈ L, rng.Own w A q.1 q.2) (hn : L.length ≤ 1000) : SO (w.alloc (.cells (L.map Prod.fst).toArray 22)) w.heap.size A (.slice (some ⟨w.heap.size, 0, none⟩) L.length L.length) L := by
  refine ⟨⟨by simp, .inr ⟨w.heap.size, L.length, (L.map Prod.fst).toArray, rfl, Nat.le_refl _, World.alloc_heap_new _ _, Nat.le_refl _, by unfold maxLen; omega, by simp, by simp [List.take_of_length_le]⟩⟩, fun q hq => ?_⟩
  exact (h q hq).below ((Below.refl _ _).alloc (Nat.le_refl _) _)
set_option maxHeartbeats 2000000 in
theorem anything_any (tb : Nat) (c d mu : Bool) (fo : Int) (sa : Option Addr) (sn sc : Nat) (w : World) :
    Calls Tryz.prog 85 #[.agg #[.pointer (some ⟨tb, 0, none⟩), .bool c, .bool d, .bool mu, .int .i64 fo, .slice sa sn sc]] w fun e w' => ∃ v' r, e = .returned v' ∧ rng.Own w' w.heap.size v' r ∧ IsP r (anyP d) ∧ Below w.heap.size w w' := by
  have HB0 : Hid (Below w.heap.size w (w.alloc (.cells #[.pointer (some ⟨tb, 0, none⟩), .bool c, .bool d, .bool mu, .int .i64 fo, .slice sa sn sc] 94))) := (Below.refl _ w).alloc (Nat.le_refl _) _
  cases d with
  | true =>
    have C := rng.not_any none 0 [] (w.alloc (.cells #[.pointer (some ⟨tb, 0, none⟩), .bool c, .bool true, .bool mu, .int .i64 fo, .slice sa sn sc] 94)) (by decide) (.inl rfl)
    go_enter Tryz.func85, Tryz.ntmps85
    go_wp2_with fail
    refine C.mono ?_
    rintro e w1 ⟨v1, r, rfl, o1, hr, b1⟩
    clear C
    have O1 : Hid (rng.Own w1 w.heap.size v1 r) := own_mn o1 HB0.out.size
    have I1 : Hid (IsP r (anyP true)) := isP_set hr (fun x hx => by simp [anyP, has])
    have B1 : Hid (Below w.heap.size w w1) := HB0.out.trans (b1.mono HB0.out.size)
    obtain ⟨ya, yc, hy⟩ := own_sl o1
    subst hy
    clear o1 hr b1
    generalize r.length = n at *
    go_wp2
    go_ret
    exact ⟨_, r, rfl, O1.out, I1.out, B1.out⟩
  | false =>
    have C := span_o 10 10 (w.alloc (.cells #[.pointer (some ⟨tb, 0, none⟩), .bool c, .bool false, .bool mu, .int .i64 fo, .slice sa sn sc] 94))
    go_enter Tryz.func85, Tryz.ntmps85
    go_wp2_with fail
    refine C.mono ?_
    rintro e w1 ⟨v1, rfl, o1, b1⟩
    clear C
    have B1 : Hid (Below w.heap.size w w1) := HB0.out.trans (b1.mono HB0.out.size)
    have O1 : Hid (rng.Own w1 w.heap.size v1 [(10, 10)]) := own_mn o1 HB0.out.size
    clear o1 b1 HB0
    have C := span_o 13 13 w1
    go_wp2_with fail
    refine C.mono ?_
    rintro e w2 ⟨v2, rfl, o2, b2⟩
    clear C
    have B2 : Hid (Below w.heap.size w w2) := B1.out.trans (b2.mono B1.out.size)
    have P1 : Hid (rng.Own w2 w.heap.size v1 [(10, 10)]) := O1.out.below b2
    have O2 : Hid (rng.Own w2 w.heap.size v2 [(13, 13)]) := own_mn o2 B1.out.size
    clear o2 b2 O1 B1
    have C := span_o 133 133 w2
    go_wp2_with fail
    refine C.mono ?_
    rintro e w3 ⟨v3, rfl, o3, b3⟩
    clear C
    have B3 : Hid (Below w.heap.size w w3) := B2.out.trans (b3.mono B2.out.size)
    have Q1 : Hid (rng.Own w3 w.heap.size v1 [(10, 10)]) := P1.out.below b3
    have Q2 : Hid (rng.Own w3 w.heap.size v2 [(13, 13)]) := O2.out.below b3
    have O3 : Hid (rng.Own w3 w.heap.size v3 [(133, 133)]) := own_mn o3 B2.out.size
    clear o3 b3 O2 P1 B2
    have C := span_o 8232 8233 w3
    go_wp2_with fail
    refine C.mono ?_
    rintro e w4 ⟨v4, rfl, o4, b4⟩
    clear C
    have B4 : Hid (Below w.heap.size w w4) := B3.out.trans (b4.mono B3.out.size)
    have R1 : Hid (rng.Own w4 w.heap.size v1 [(10, 10)]) := Q1.out.below b4
    have R2 : Hid (rng.Own w4 w.heap.size v2 [(13, 13)]) := Q2.out.below b4
    have R3 : Hid (rng.Own w4 w.heap.size v3 [(133, 133)]) := O3.out.below b4
    have R4 : Hid (rng.Own w4 w.heap.size v4 [(8232, 8233)]) := own_mn o4 B3.out.size
    clear o4 b4 Q1 Q2 O3 B3
    have so := SO.lit (w := w4) (A := w.heap.size) (L := [(v1, [(10, 10)]), (v2, [(13, 13)]), (v3, [(133, 133)]), (v4, [(8232, 8233)])]) (by
      intro q hq
      simp only [List.mem_cons, List.mem_nil_iff, or_false] at hq
      rcases hq with rfl | rfl | rfl | rfl
      · exact R1.out
      · exact R2.out
      · exact R3.out
      · exact R4.out) (by simp)
    have C := join_any _ _ _ _ _ so (by simp) (by simp [catL, cat])
    have B5 : Hid (Below w.heap.size w (w4.alloc (.cells #[v1, v2, v3, v4] 22))) := B4.out.alloc B4.out.size _
    have S5 : Hid (w.heap.size ≤ (w4.alloc (.cells #[v1, v2, v3, v4] 22)).heap.size) := B5.out.size
    obtain ⟨a1, c1, h1⟩ := own_sl R1.out
    obtain ⟨a2, c2, h2⟩ := own_sl R2.out
    obtain ⟨a3, c3, h3⟩ := own_sl R3.out
    obtain ⟨a4, c4, h4⟩ := own_sl R4.out
    subst h1 h2 h3 h4
    clear so R1 R2 R3 R4 B4
    go_wp2_with fail
    refine C.mono ?_
    rintro e w6 ⟨v6, r, rfl, o6, hr, b6⟩
    clear C
    have B6 : Hid (Below w.heap.size w w6) := B5.out.trans (b6.mono S5.out)
    have hl := rng.can_len hr.1
    obtain ⟨xa, xc, hx, hrv⟩ := sl_of o6
    subst hx
    have C := rng.not_any xa xc r w6 (by omega) hrv
    have HR : Hid (IsSet r (has [(10, 10), (13, 13), (133, 133), (8232, 8233)])) := hr
    clear o6 hr b6 B5 S5 hrv hl
    generalize r.length = n at *
    go_wp2_with fail
    refine C.mono ?_
    rintro e w7 ⟨v7, s, rfl, o7, hs, b7⟩
    clear C
    have O7 : Hid (rng.Own w7 w.heap.size v7 s) := own_mn o7 B6.out.size
    have I7 : Hid (IsP s (anyP false)) := isP_set hs (fun x hx => by
      rw [HR.out.2 x hx]
      unfold anyP
      simp)
    have B7 : Hid (Below w.heap.size w w7) := B6.out.trans (b7.mono B6.out.size)
    obtain ⟨ya, yc, hy⟩ := own_sl o7
    subst hy
    clear o7 hs b7 HR
    generalize s.length = n2 at *
    go_wp2
    go_ret
    exact ⟨_, s, rfl, O7.out, I7.out, B7.out⟩
end Go.Proofs.YtpcnbamlmfmmpaaGreatDoor.cls
end

section
/- can: whether a node, and all below it, have sets. -/
set_option linter.unusedVariables false
set_option linter.unusedSimpArgs false
namespace Go.Proofs.YtpcnbamlmfmmpaaGreatDoor.cls
open Go.RowKit
open Go.Proofs.YtpcnbamlmfmmpaaGreatDoor.rng (R has IsSet Sl code CanF Own RV)
open Go.Proofs.YtpcnbamlmfmmpaaGreatDoor.nod

set_option maxHeartbeats 1000000 in
theorem canClass_any (k m a b : Int) (g : Bool) (n : ByteArray) (sa : Option Addr) (sl sc : Nat) (ao : Option Addr) (nk cap : Nat) (w : World) :
    Calls Tryz.prog 79 #[.agg #[.int .i64 k, .int .i64 m, .int .i64 a, .int .i64 b, .bool g, .string n, .slice sa sl sc, .slice ao nk cap]] w fun e w' => e = .returned (.bool (classK m nk)) ∧ Below w.heap.size w w' := by
  have HB : Hid (Below w.heap.size w (w.alloc (.cells #[.int .i64 k, .int .i64 m, .int .i64 a, .int .i64 b, .bool g, .string n, .slice sa sl sc, .slice ao nk cap] 37))) := (Below.refl _ w).alloc (Nat.le_refl _) _
  have HQ : Hid (((nk : Int) == 2) = (nk == 2)) := by show _ = _; rw [Bool.eq_iff_iff]; simp; omega
  unfold classK
  by_cases c : m = 0 ∨ m = 1 ∨ m = 2 ∨ m = 3
  · rcases c with rfl | rfl | rfl | rfl <;> (go_enter Tryz.func79, Tryz.ntmps79; go_wp2; go_ret; exact ⟨rng.ret_bool (by first | rfl | (rw [HQ.out]; rfl)), HB.out⟩)
  · have e0 : (m == 0) = false := by rw [beq_eq_false_iff_ne]; omega
    have e1 : (m == 1) = false := by rw [beq_eq_false_iff_ne]; omega
    have e2 : (m == 2) = false := by rw [beq_eq_false_iff_ne]; omega
    have e3 : (m == 3) = false := by rw [beq_eq_false_iff_ne]; omega
    rw [e0, e1, e2, e3]
    clear c
    go_enter Tryz.func79, Tryz.ntmps79
    go_wp2
    go_ret
    exact ⟨rfl, HB.out⟩
theorem can_all {N : Nat} {t : Nd} (h : canN (N + 1) t = true) : (∀ x ∈ t.kids, canN N x = true) ∧ (leafK t.kind || (t.kind == 3 && classK t.mode t.kids.length)) = true := by
  rw [canN, Bool.and_eq_true, List.all_eq_true] at h
  exact h
set_option maxRecDepth 10000 in
set_option maxHeartbeats 4000000 in
theorem can_any : ∀ (N : Nat) (t : Nd) (v : Value) (B : Nat) (w : World), t.sz ≤ N → NV B w t v → B ≤ w.heap.size →
    Calls Tryz.prog 52 #[v] w fun e w' => e = .returned (.bool (canN N t)) ∧ Below w.heap.size w w' := by
  intro N
  induction N with
  | zero => intro t v B w h; obtain ⟨k, m, a, b, g, n, s, ks⟩ := t; rw [Nd.sz] at h; omega
  | succ N ih =>
    intro t v B w hN hv hBw
    obtain ⟨k, m, a, b, g, n, s, ks, sa, sc, ao, cap, rfl, rfl, _, _, _, hk1, hk2, _, hkv⟩ := hv.open
    rw [Nd.sz] at hN
    clear hv
    have HQ : Hid (canN (N + 1) (.mk k m a b g n s ks) = (ks.all (canN N) && (leafK k || (k == 3 && classK m ks.length)))) := by show _ = _; rw [canN]; rfl
    obtain ⟨RR, hRR⟩ : ∃ x, canN (N + 1) (.mk k m a b g n s ks) = x := ⟨_, rfl⟩
    rw [hRR]
    have HRR : Hid (RR = (ks.all (canN N) && (leafK k || (k == 3 && classK m ks.length)))) := hRR.symm.trans HQ.out
    clear hRR HQ
    obtain ⟨nk, hnk⟩ : ∃ nk, ks.length = nk := ⟨_, rfl⟩
    have HL : Hid (ks.length = nk) := hnk
    have HK : Hid (KV B w ao ks) := hkv
    have HI : Hid (∀ (t : Nd) (v : Value) (W : World), t ∈ ks → NV B W t v → B ≤ W.heap.size → Calls Tryz.prog 52 #[v] W fun e w' => e = .returned (.bool (canN N t)) ∧ Below W.heap.size W w') := fun t v W hm hv hs => by
      have := szL_mem hm
      exact ih t v B W (by omega) hv hs
    rw [hnk] at hk1 HRR ⊢
    generalize hsl : s.length = sl
    clear hsl
    have hk3 : nk ≤ 9223372036854775807 := by unfold maxLen at hk2; omega
    have bk := Bk.new w #[.int .i64 k, .int .i64 m, .int .i64 a, .int .i64 b, .bool g, .string n, .slice sa sl sc, .slice ao nk cap] 37
    have HBK : Hid (Bk (w.alloc (.cells #[.int .i64 k, .int .i64 m, .int .i64 a, .int .i64 b, .bool g, .string n, .slice sa sl sc, .slice ao nk cap] 37)) w.heap.size #[.int .i64 k, .int .i64 m, .int .i64 a, .int .i64 b, .bool g, .string n, .slice sa sl sc, .slice ao nk cap] 37) := bk
    have HB : Hid (Below w.heap.size w (w.alloc (.cells #[.int .i64 k, .int .i64 m, .int .i64 a, .int .i64 b, .bool g, .string n, .slice sa sl sc, .slice ao nk cap] 37))) := (Below.refl _ w).alloc (Nat.le_refl _) _
    clear hkv ih hN hnk bk
    go_enter Tryz.func52, Tryz.ntmps52
    go_wp2
    go_loopw [8] (fun i wr => ∃ j : Nat, j ≤ nk ∧ i = .int .i64 j ∧ Hid ((ks.take j).all (canN N) = true) ∧ Hid (Bk wr w.heap.size #[.int .i64 k, .int .i64 m, .int .i64 a, .int .i64 b, .bool g, .string n, .slice sa sl sc, .slice ao nk cap] 37) ∧ Hid (Below w.heap.size w wr)) (fun i _ => nk - (intOf i).toNat)
    case atStart => exact ⟨0, Nat.zero_le _, rfl, rfl, HBK, HB⟩
    case round =>
      clear HBK HB
      obtain ⟨j, hj, rfl, HA, HBK, HW⟩ := hrel
      by_cases hlt : j < nk
      · have hlt' : (j : Int) < (nk : Int) := by omega
        obtain ⟨t, ht⟩ := getX HL.out hlt
        obtain ⟨bb, off, rfl, hka⟩ := (HK.out.below (below_less HW.out hBw)).some (by have := HL.out; omega)
        obtain ⟨k', m', a', b', g', n', s', kk, sa', sc', ao', cap', rfl, ⟨e0, e1, e2, e3, e4, e5, e6, e7⟩, hv'⟩ := hka.kid ht
        have hmem := List.mem_of_getElem? ht
        have hBr : B ≤ wr.heap.size := Nat.le_trans hBw HW.out.size
        have HT : Hid (∀ x, canN N (.mk k' m' a' b' g' n' s' kk) = x → (ks.take (j + 1)).all (canN N) = x) := fun x hx => by
          rw [takeX ht, List.all_append, HA.out]; simp [hx]
        have HF : Hid (canN N (.mk k' m' a' b' g' n' s' kk) = false → ks.all (canN N) = false) := fun hx => by
          rw [List.all_eq_false]; exact ⟨_, hmem, by rw [hx]; decide⟩
        generalize s'.length = sl' at *
        generalize kk.length = nk' at *
        have W1 : Below wr.heap.size wr (wr.alloc (.cells #[.int .i64 k', .int .i64 m', .int .i64 a', .int .i64 b', .bool g', .string n', .slice sa' sl' sc', .slice ao' nk' cap'] 37)) := (Below.refl _ wr).alloc (Nat.le_refl _) _
        have C := HI.out _ _ (wr.alloc (.cells #[.int .i64 k', .int .i64 m', .int .i64 a', .int .i64 b', .bool g', .string n', .slice sa' sl' sc', .slice ao' nk' cap'] 37)) hmem (hv'.on W1 hBr) (by simp; omega)
        have HC : Hid (Below w.heap.size w (wr.alloc (.cells #[.int .i64 k', .int .i64 m', .int .i64 a', .int .i64 b', .bool g', .string n', .slice sa' sl' sc', .slice ao' nk' cap'] 37))) := HW.out.trans (W1.mono HW.out.size)
        have HBK2 : Hid (Bk (wr.alloc (.cells #[.int .i64 k', .int .i64 m', .int .i64 a', .int .i64 b', .bool g', .string n', .slice sa' sl' sc', .slice ao' nk' cap'] 37)) w.heap.size #[.int .i64 k, .int .i64 m, .int .i64 a, .int .i64 b, .bool g, .string n, .slice sa sl sc, .slice (some ⟨bb, off, none⟩) nk cap] 37) := HBK.out.on W1
        clear HK HW hka hv' ht hmem W1 HI HBK HA
        generalize canN N (.mk k' m' a' b' g' n' s' kk) = r at *
        cases r with
        | false =>
          have hx : Hid (RR = false) := by show _ = _; rw [HRR.out, HF.out rfl]; rfl
          clear HF HT HRR
          go_wp2_with (go_at_call 52; refine C.mono ?_; rintro e w2 ⟨rfl, d3⟩; have D3 : Hid (Below _ _ w2) := d3; clear d3)
          go_ret
          exact ⟨rng.ret_bool hx.out.symm, HC.out.trans (D3.out.mono HC.out.size)⟩
        | true =>
          have HX : Hid ((ks.take (j + 1)).all (canN N) = true) := HT.out true rfl
          clear HF HT
          go_wp2_with (go_at_call 52; refine C.mono ?_; rintro e w2 ⟨rfl, d3⟩; have D3 : Hid (Below _ _ w2) := d3; clear d3)
          go_roundw
          case rel => exact ⟨j + 1, by omega, by go_num, HX, HBK2.out.on D3.out, HC.out.trans (D3.out.mono HC.out.size)⟩
          case measure => simp [intOf]; omega
      · have hA : ks.all (canN N) = true := by have := HA.out; rw [List.take_of_length_le (by have := HL.out; omega)] at this; exact this
        have hlt' : ¬ (j : Int) < (nk : Int) := by omega
        have HR2 : Hid (RR = (leafK k || (k == 3 && classK m nk))) := by show _ = _; rw [HRR.out, hA, Bool.true_and]
        clear HI HK HA hA HRR
        have x0 := HBK.out.cell 0 (u := .int .i64 k) rfl
        have x1 := HBK.out.cell 1 (u := .int .i64 m) rfl
        have x2 := HBK.out.cell 2 (u := .int .i64 a) rfl
        have x3 := HBK.out.cell 3 (u := .int .i64 b) rfl
        have x4 := HBK.out.cell 4 (u := .bool g) rfl
        have x5 := HBK.out.cell 5 (u := .string n) rfl
        have x6 := HBK.out.cell 6 (u := .slice sa sl sc) rfl
        have x7 := HBK.out.cell 7 (u := .slice ao nk cap) rfl
        by_cases c : k = 1 ∨ k = 4 ∨ k = 5 ∨ k = 2
        · rcases c with rfl | rfl | rfl | rfl <;> (go_wp2; go_ret; exact ⟨rng.ret_bool (HR2.out.trans rfl).symm, HW.out⟩)
        have f1 : (k == 1) = false := by rw [beq_eq_false_iff_ne]; omega
        have f4 : (k == 4) = false := by rw [beq_eq_false_iff_ne]; omega
        have f5 : (k == 5) = false := by rw [beq_eq_false_iff_ne]; omega
        have f2 : (k == 2) = false := by rw [beq_eq_false_iff_ne]; omega
        have fL : leafK k = false := by unfold leafK; rw [f1, f4, f5, f2]; rfl
        by_cases c3 : k = 3
        · subst c3
          have C := canClass_any 3 m a b g n sa sl sc ao nk cap wr
          have HR3 : Hid (RR = classK m nk) := by show _ = _; rw [HR2.out, fL]; rfl
          clear HR2 fL
          generalize classK m nk = z at *
          go_wp2_with fail
          refine C.mono ?_
          rintro e w2 ⟨rfl, b2⟩
          clear C
          go_wp2
          go_ret
          exact ⟨rng.ret_bool HR3.out.symm, HW.out.trans (b2.mono HW.out.size)⟩
        · have f3 : (k == 3) = false := by rw [beq_eq_false_iff_ne]; exact c3
          have HR3 : Hid (RR = false) := by show _ = _; rw [HR2.out, fL, f3]; rfl
          clear HR2 fL
          go_wp2
          go_ret
          exact ⟨rng.ret_bool HR3.out.symm, HW.out⟩
end Go.Proofs.YtpcnbamlmfmmpaaGreatDoor.cls
end
