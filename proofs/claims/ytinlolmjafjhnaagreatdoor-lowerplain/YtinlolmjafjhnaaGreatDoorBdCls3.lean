/- Texts that the proof leans on, one behind the other. -/
import Derived.Test.YtinlolmjafjhnaaGreatDoorBdCls2

section
/- set and class: the set of a node, or the error. -/
set_option linter.unusedVariables false
set_option linter.unusedSimpArgs false
namespace Go.Proofs.YtinlolmjafjhnaaGreatDoor.cls
open Go.RowKit
open Go.Proofs.YtinlolmjafjhnaaGreatDoor.rng (R has IsSet Sl code CanF RV)
open Go.Proofs.YtinlolmjafjhnaaGreatDoor.dcp (sinL fullL)
open Go.Proofs.YtinlolmjafjhnaaGreatDoor.nod

/-- What a maker leans on. -/
structure Mk (w : World) (tb : Nat) (c : Bool) (sa : Option Addr) (sn sc : Nat) : Prop where
  tabs : prp.Tabs w tb
  env : prp.Env w
  len : (sgl c).length = sn
  sin : prp.IV w (.slice sa sn sc) (sgl c)
theorem Mk.below {w w' : World} {tb : Nat} {c : Bool} {sa : Option Addr} {sn sc : Nat} (h : Mk w tb c sa sn sc) (hb : Below w.heap.size w w') : Mk w' tb c sa sn sc := ⟨h.tabs.below hb, h.env.below hb, h.len, h.sin.below hb⟩
/-- The answer: a set, or an error and none. -/
def Ans (w w' : World) (e : Ending) (er : Int) (P : Int → Prop) : Prop := ∃ v' r, e = .returned (.tuple #[v', .int .i64 er]) ∧ rng.Own w' w.heap.size v' r ∧ (er = 0 → IsP r P) ∧ (¬ er = 0 → r = []) ∧ Below w.heap.size w w'
set_option maxHeartbeats 2000000 in
set_option maxRecDepth 1000000 in
theorem set_1 (tb : Nat) (c d mu : Bool) (fo : Int) (sa : Option Addr) (sn sc : Nat) (m a b : Int) (g : Bool) (n : ByteArray) (ta : Option Addr) (tl tc : Nat) (ka : Option Addr) (kl kc : Nat) (w : World) (hM : Mk w tb c sa sn sc) :
    Calls Tryz.prog 48 #[.agg #[.pointer (some ⟨tb, 0, none⟩), .bool c, .bool d, .bool mu, .int .i64 fo, .slice sa sn sc], .agg #[.int .i64 1, .int .i64 m, .int .i64 a, .int .i64 b, .bool g, .string n, .slice ta tl tc, .slice ka kl kc]] w fun e w' => Ans w w' e 0 (wideP c fo (fun x => x = a)) := by
  have HM : Hid (Mk w tb c sa sn sc) := hM
  have bk := (Bk.new w #[.pointer (some ⟨tb, 0, none⟩), .bool c, .bool d, .bool mu, .int .i64 fo, .slice sa sn sc] 81).past (.cells #[.int .i64 1, .int .i64 m, .int .i64 a, .int .i64 b, .bool g, .string n, .slice ta tl tc, .slice ka kl kc] 25)
  have bn := Bk.new (w.alloc (.cells #[.pointer (some ⟨tb, 0, none⟩), .bool c, .bool d, .bool mu, .int .i64 fo, .slice sa sn sc] 81)) #[.int .i64 1, .int .i64 m, .int .i64 a, .int .i64 b, .bool g, .string n, .slice ta tl tc, .slice ka kl kc] 25
  have B0 : Below w.heap.size w ((w.alloc (.cells #[.pointer (some ⟨tb, 0, none⟩), .bool c, .bool d, .bool mu, .int .i64 fo, .slice sa sn sc] 81)).alloc (.cells #[.int .i64 1, .int .i64 m, .int .i64 a, .int .i64 b, .bool g, .string n, .slice ta tl tc, .slice ka kl kc] 25)) := ((Below.refl _ w).alloc (Nat.le_refl _) _).alloc (by simp) _
  rw [World.size_alloc] at bn
  have HBK : Hid (Bk _ w.heap.size #[.pointer (some ⟨tb, 0, none⟩), .bool c, .bool d, .bool mu, .int .i64 fo, .slice sa sn sc] 81) := bk
  have HBN : Hid (Bk _ (w.heap.size + 1) #[.int .i64 1, .int .i64 m, .int .i64 a, .int .i64 b, .bool g, .string n, .slice ta tl tc, .slice ka kl kc] 25) := bn
  have HB0 : Hid (Below w.heap.size w _) := B0
  have HWD : Hid (∀ (A : Nat) (v : Value) (W : World), Below w.heap.size w W → A ≤ W.heap.size → rng.Own W A v [(a, a)] → Calls Tryz.prog 65 #[.agg #[.pointer (some ⟨tb, 0, none⟩), .bool c, .bool d, .bool mu, .int .i64 fo, .slice sa sn sc], v] W fun e w' => ∃ v' r, e = .returned v' ∧ rng.Own w' W.heap.size v' r ∧ IsP r (wideP c fo (fun x => x = a)) ∧ Below W.heap.size W w') := fun A v W hb hA ho => by
    have h1 := HM.out.below hb
    exact widened_any tb c d mu fo sa sn sc A v [(a, a)] _ W h1.tabs h1.env h1.len h1.sin hA ho (fun x hx => by rw [has_span]; simp [hx]; try omega) (by simp)
  unfold Ans
  clear hM bk bn B0
  go_enter Tryz.func48, Tryz.ntmps48
  go_wp2
  generalize (w.alloc (.cells #[.pointer (some ⟨tb, 0, none⟩), .bool c, .bool d, .bool mu, .int .i64 fo, .slice sa sn sc] 81)).alloc (.cells #[.int .i64 1, .int .i64 m, .int .i64 a, .int .i64 b, .bool g, .string n, .slice ta tl tc, .slice ka kl kc] 25) = W0 at *
  have x := cells7 HBK.out HBN.out 2 (.int .i64 a) rfl
  have xb := HBN.out.cell 3 (u := .int .i64 b) rfl
  go_region_held3 (fun w' => w'.cell? ⟨w.heap.size, 0, none⟩ = some (.pointer (some ⟨tb, 0, none⟩)) ∧ w'.cell? ⟨w.heap.size, 1, none⟩ = some (.bool c) ∧ w'.cell? ⟨w.heap.size, 2, none⟩ = some (.bool d) ∧ w'.cell? ⟨w.heap.size, 3, none⟩ = some (.bool mu) ∧ w'.cell? ⟨w.heap.size, 4, none⟩ = some (.int .i64 fo) ∧ w'.cell? ⟨w.heap.size, 5, none⟩ = some (.slice sa sn sc) ∧ w'.cell? ⟨w.heap.size + 1, 2, none⟩ = some (.int .i64 a)) (go_keep) (first
    | (go_at_call 66; refine (span_o _ _ _).mono ?_; rintro e w1 ⟨v1, rfl, o1, b0⟩; have b1 : Below W0.heap.size W0 w1 := (Below.refl _ W0).drew.trans b0; have O1 : Hid (rng.Own w1 W0.heap.size v1 [(a, a)]) := o1; have S1 : Hid (W0.heap.size ≤ w1.heap.size) := b1.size; have B1 : Hid (Below w.heap.size w w1) := HB0.out.trans (b1.mono HB0.out.size); have z := cells7 (HBK.out.on b1) (HBN.out.on b1) 2 (.int .i64 a) rfl; have zb := (HBN.out.on b1).cell 3 (u := .int .i64 b) rfl; have HBK1 : Hid (Bk w1 w.heap.size #[.pointer (some ⟨tb, 0, none⟩), .bool c, .bool d, .bool mu, .int .i64 fo, .slice sa sn sc] 81) := HBK.out.on b1; have HBN1 : Hid (Bk w1 (w.heap.size + 1) #[.int .i64 1, .int .i64 m, .int .i64 a, .int .i64 b, .bool g, .string n, .slice ta tl tc, .slice ka kl kc] 25) := HBN.out.on b1; clear o1 b0 b1)
    | (go_at_call 65; refine (HWD.out _ _ _ B1.out S1.out O1.out).mono ?_; rintro e w2 ⟨v2, r2, rfl, o2, i2, b2⟩; have O2 : Hid (rng.Own w2 w.heap.size v2 r2) := own_mn o2 B1.out.size; have I2 : Hid (IsP r2 (wideP c fo (fun x => x = a))) := i2; have B2 : Hid (Below w.heap.size w w2) := B1.out.trans (b2.mono B1.out.size); have y := cells7 (HBK1.out.on b2) (HBN1.out.on b2) 2 (.int .i64 a) rfl; have yb := (HBN1.out.on b2).cell 3 (u := .int .i64 b) rfl; clear o2 i2 b2))
  all_goals go_wp2
  all_goals go_ret2
  all_goals exact ⟨_, r2, rfl, O2.out, fun _ => I2.out, fun h => (h (by first | rfl | trivial)).elim, B2.out⟩
set_option maxHeartbeats 2000000 in
set_option maxRecDepth 1000000 in
theorem set_4 (tb : Nat) (c d mu : Bool) (fo : Int) (sa : Option Addr) (sn sc : Nat) (m a b : Int) (g : Bool) (n : ByteArray) (ta : Option Addr) (tl tc : Nat) (ka : Option Addr) (kl kc : Nat) (w : World) (hM : Mk w tb c sa sn sc) :
    Calls Tryz.prog 48 #[.agg #[.pointer (some ⟨tb, 0, none⟩), .bool c, .bool d, .bool mu, .int .i64 fo, .slice sa sn sc], .agg #[.int .i64 4, .int .i64 m, .int .i64 a, .int .i64 b, .bool g, .string n, .slice ta tl tc, .slice ka kl kc]] w fun e w' => Ans w w' e 0 (wideP c fo (fun x => a ≤ x ∧ x ≤ b)) := by
  have HM : Hid (Mk w tb c sa sn sc) := hM
  have bk := (Bk.new w #[.pointer (some ⟨tb, 0, none⟩), .bool c, .bool d, .bool mu, .int .i64 fo, .slice sa sn sc] 81).past (.cells #[.int .i64 4, .int .i64 m, .int .i64 a, .int .i64 b, .bool g, .string n, .slice ta tl tc, .slice ka kl kc] 25)
  have bn := Bk.new (w.alloc (.cells #[.pointer (some ⟨tb, 0, none⟩), .bool c, .bool d, .bool mu, .int .i64 fo, .slice sa sn sc] 81)) #[.int .i64 4, .int .i64 m, .int .i64 a, .int .i64 b, .bool g, .string n, .slice ta tl tc, .slice ka kl kc] 25
  have B0 : Below w.heap.size w ((w.alloc (.cells #[.pointer (some ⟨tb, 0, none⟩), .bool c, .bool d, .bool mu, .int .i64 fo, .slice sa sn sc] 81)).alloc (.cells #[.int .i64 4, .int .i64 m, .int .i64 a, .int .i64 b, .bool g, .string n, .slice ta tl tc, .slice ka kl kc] 25)) := ((Below.refl _ w).alloc (Nat.le_refl _) _).alloc (by simp) _
  rw [World.size_alloc] at bn
  have HBK : Hid (Bk _ w.heap.size #[.pointer (some ⟨tb, 0, none⟩), .bool c, .bool d, .bool mu, .int .i64 fo, .slice sa sn sc] 81) := bk
  have HBN : Hid (Bk _ (w.heap.size + 1) #[.int .i64 4, .int .i64 m, .int .i64 a, .int .i64 b, .bool g, .string n, .slice ta tl tc, .slice ka kl kc] 25) := bn
  have HB0 : Hid (Below w.heap.size w _) := B0
  have HWD : Hid (∀ (A : Nat) (v : Value) (W : World), Below w.heap.size w W → A ≤ W.heap.size → rng.Own W A v [(a, b)] → Calls Tryz.prog 65 #[.agg #[.pointer (some ⟨tb, 0, none⟩), .bool c, .bool d, .bool mu, .int .i64 fo, .slice sa sn sc], v] W fun e w' => ∃ v' r, e = .returned v' ∧ rng.Own w' W.heap.size v' r ∧ IsP r (wideP c fo (fun x => a ≤ x ∧ x ≤ b)) ∧ Below W.heap.size W w') := fun A v W hb hA ho => by
    have h1 := HM.out.below hb
    exact widened_any tb c d mu fo sa sn sc A v [(a, b)] _ W h1.tabs h1.env h1.len h1.sin hA ho (fun x hx => by rw [has_span]; simp [hx]; try omega) (by simp)
  unfold Ans
  clear hM bk bn B0
  go_enter Tryz.func48, Tryz.ntmps48
  go_wp2
  generalize (w.alloc (.cells #[.pointer (some ⟨tb, 0, none⟩), .bool c, .bool d, .bool mu, .int .i64 fo, .slice sa sn sc] 81)).alloc (.cells #[.int .i64 4, .int .i64 m, .int .i64 a, .int .i64 b, .bool g, .string n, .slice ta tl tc, .slice ka kl kc] 25) = W0 at *
  have x := cells7 HBK.out HBN.out 2 (.int .i64 a) rfl
  have xb := HBN.out.cell 3 (u := .int .i64 b) rfl
  go_region_held3 (fun w' => w'.cell? ⟨w.heap.size, 0, none⟩ = some (.pointer (some ⟨tb, 0, none⟩)) ∧ w'.cell? ⟨w.heap.size, 1, none⟩ = some (.bool c) ∧ w'.cell? ⟨w.heap.size, 2, none⟩ = some (.bool d) ∧ w'.cell? ⟨w.heap.size, 3, none⟩ = some (.bool mu) ∧ w'.cell? ⟨w.heap.size, 4, none⟩ = some (.int .i64 fo) ∧ w'.cell? ⟨w.heap.size, 5, none⟩ = some (.slice sa sn sc) ∧ w'.cell? ⟨w.heap.size + 1, 2, none⟩ = some (.int .i64 a) ∧ w'.cell? ⟨w.heap.size + 1, 3, none⟩ = some (.int .i64 b)) (go_keep) (first
    | (go_at_call 66; refine (span_o _ _ _).mono ?_; rintro e w1 ⟨v1, rfl, o1, b0⟩; have b1 : Below W0.heap.size W0 w1 := (Below.refl _ W0).drew.trans b0; have O1 : Hid (rng.Own w1 W0.heap.size v1 [(a, b)]) := o1; have S1 : Hid (W0.heap.size ≤ w1.heap.size) := b1.size; have B1 : Hid (Below w.heap.size w w1) := HB0.out.trans (b1.mono HB0.out.size); have z := cells7 (HBK.out.on b1) (HBN.out.on b1) 2 (.int .i64 a) rfl; have zb := (HBN.out.on b1).cell 3 (u := .int .i64 b) rfl; have HBK1 : Hid (Bk w1 w.heap.size #[.pointer (some ⟨tb, 0, none⟩), .bool c, .bool d, .bool mu, .int .i64 fo, .slice sa sn sc] 81) := HBK.out.on b1; have HBN1 : Hid (Bk w1 (w.heap.size + 1) #[.int .i64 4, .int .i64 m, .int .i64 a, .int .i64 b, .bool g, .string n, .slice ta tl tc, .slice ka kl kc] 25) := HBN.out.on b1; clear o1 b0 b1)
    | (go_at_call 65; refine (HWD.out _ _ _ B1.out S1.out O1.out).mono ?_; rintro e w2 ⟨v2, r2, rfl, o2, i2, b2⟩; have O2 : Hid (rng.Own w2 w.heap.size v2 r2) := own_mn o2 B1.out.size; have I2 : Hid (IsP r2 (wideP c fo (fun x => a ≤ x ∧ x ≤ b))) := i2; have B2 : Hid (Below w.heap.size w w2) := B1.out.trans (b2.mono B1.out.size); have y := cells7 (HBK1.out.on b2) (HBN1.out.on b2) 2 (.int .i64 a) rfl; have yb := (HBN1.out.on b2).cell 3 (u := .int .i64 b) rfl; clear o2 i2 b2))
  all_goals go_wp2
  all_goals go_ret2
  all_goals exact ⟨_, r2, rfl, O2.out, fun _ => I2.out, fun h => (h (by first | rfl | trivial)).elim, B2.out⟩
set_option maxHeartbeats 2000000 in
set_option maxRecDepth 1000000 in
theorem set_any2 (tb : Nat) (c d mu : Bool) (fo : Int) (sa : Option Addr) (sn sc : Nat) (k m a b : Int) (g : Bool) (n : ByteArray) (ta : Option Addr) (tl tc : Nat) (ka : Option Addr) (kl kc : Nat) (w : World) (h1 : (k == 1) = false) (h4 : (k == 4) = false) (h5 : (k == 5) = false) (h3 : (k == 3) = false) :
    Calls Tryz.prog 48 #[.agg #[.pointer (some ⟨tb, 0, none⟩), .bool c, .bool d, .bool mu, .int .i64 fo, .slice sa sn sc], .agg #[.int .i64 k, .int .i64 m, .int .i64 a, .int .i64 b, .bool g, .string n, .slice ta tl tc, .slice ka kl kc]] w fun e w' => Ans w w' e 0 (anyP d) := by
  have C := anything_any tb c d mu fo sa sn sc ((w.alloc (.cells #[.pointer (some ⟨tb, 0, none⟩), .bool c, .bool d, .bool mu, .int .i64 fo, .slice sa sn sc] 81)).alloc (.cells #[.int .i64 k, .int .i64 m, .int .i64 a, .int .i64 b, .bool g, .string n, .slice ta tl tc, .slice ka kl kc] 25))
  have HB0 : Hid (Below w.heap.size w ((w.alloc (.cells #[.pointer (some ⟨tb, 0, none⟩), .bool c, .bool d, .bool mu, .int .i64 fo, .slice sa sn sc] 81)).alloc (.cells #[.int .i64 k, .int .i64 m, .int .i64 a, .int .i64 b, .bool g, .string n, .slice ta tl tc, .slice ka kl kc] 25))) := ((Below.refl _ w).alloc (Nat.le_refl _) _).alloc (by simp) _
  unfold Ans
  go_enter Tryz.func48, Tryz.ntmps48
  go_wp2_with fail
  refine C.mono ?_
  rintro e w1 ⟨v1, r, rfl, o1, i1, b1⟩
  clear C
  have O1 : Hid (rng.Own w1 w.heap.size v1 r) := own_mn o1 HB0.out.size
  have I1 : Hid (IsP r (anyP d)) := i1
  have B1 : Hid (Below w.heap.size w w1) := HB0.out.trans (b1.mono HB0.out.size)
  obtain ⟨ya, yc, hy⟩ := own_sl o1
  subst hy
  clear o1 i1 b1
  generalize r.length = rn at *
  go_wp2
  go_ret2
  exact ⟨_, r, rfl, O1.out, fun _ => I1.out, fun h => (h (by first | rfl | trivial)).elim, B1.out⟩
set_option maxHeartbeats 2000000 in
set_option maxRecDepth 1000000 in
theorem set_5 (tb : Nat) (c d mu : Bool) (fo : Int) (sa : Option Addr) (sn sc : Nat) (m a b : Int) (g : Bool) (n : ByteArray) (ta : Option Addr) (tl tc : Nat) (ka : Option Addr) (kl kc : Nat) (w : World) (hM : Mk w tb c sa sn sc) (hn : n.size ≤ 140737488355327) :
    Calls Tryz.prog 48 #[.agg #[.pointer (some ⟨tb, 0, none⟩), .bool c, .bool d, .bool mu, .int .i64 fo, .slice sa sn sc], .agg #[.int .i64 5, .int .i64 m, .int .i64 a, .int .i64 b, .bool g, .string n, .slice ta tl tc, .slice ka kl kc]] w fun e w' => Ans w w' e (propE n) (negP g (wideP c fo (propP n))) := by
  have B0 : Below w.heap.size w ((w.alloc (.cells #[.pointer (some ⟨tb, 0, none⟩), .bool c, .bool d, .bool mu, .int .i64 fo, .slice sa sn sc] 81)).alloc (.cells #[.int .i64 5, .int .i64 m, .int .i64 a, .int .i64 b, .bool g, .string n, .slice ta tl tc, .slice ka kl kc] 25)) := ((Below.refl _ w).alloc (Nat.le_refl _) _).alloc (by simp) _
  have hM2 := hM.below B0
  have C := property_any tb c d mu fo sa sn sc 5 m a b g n ta tl tc ka kl kc ((w.alloc (.cells #[.pointer (some ⟨tb, 0, none⟩), .bool c, .bool d, .bool mu, .int .i64 fo, .slice sa sn sc] 81)).alloc (.cells #[.int .i64 5, .int .i64 m, .int .i64 a, .int .i64 b, .bool g, .string n, .slice ta tl tc, .slice ka kl kc] 25)) hM2.tabs hM2.env hM2.len hM2.sin hn
  have HB0 : Hid (Below w.heap.size w ((w.alloc (.cells #[.pointer (some ⟨tb, 0, none⟩), .bool c, .bool d, .bool mu, .int .i64 fo, .slice sa sn sc] 81)).alloc (.cells #[.int .i64 5, .int .i64 m, .int .i64 a, .int .i64 b, .bool g, .string n, .slice ta tl tc, .slice ka kl kc] 25))) := B0
  unfold Ans
  clear hM hM2 B0
  generalize propE n = pe at *
  go_enter Tryz.func48, Tryz.ntmps48
  go_wp2_with fail
  refine C.mono ?_
  rintro e w1 ⟨v1, r, rfl, o1, i1, j1, b1⟩
  clear C
  have O1 : Hid (rng.Own w1 w.heap.size v1 r) := own_mn o1 HB0.out.size
  have I1 : Hid (pe = 0 → IsP r (negP g (wideP c fo (propP n)))) := i1
  have J1 : Hid (¬ pe = 0 → r = []) := j1
  have B1 : Hid (Below w.heap.size w w1) := HB0.out.trans (b1.mono HB0.out.size)
  obtain ⟨ya, yc, hy⟩ := own_sl o1
  subst hy
  clear o1 i1 j1 b1
  generalize r.length = rn at *
  go_wp2
  go_ret2
  exact ⟨_, r, rfl, O1.out, I1.out, J1.out, B1.out⟩
theorem cells2 {W : World} {h : Nat} {T' : TypeId} {cs : Array Value} (BN : Bk W h cs T') (i : Nat) (u : Value) (hu : cs[i]? = some u) (j : Nat) (x : Value) (hx : cs[j]? = some x) : W.cell? ⟨h, i, none⟩ = some u ∧ W.cell? ⟨h, j, none⟩ = some x := ⟨BN.cell i hu, BN.cell j hx⟩
set_option maxHeartbeats 4000000 in
set_option maxRecDepth 1000000 in
theorem class_any (N : Nat) (hN : N ≤ 300) (ih : ∀ (t : Nd) (v : Value) (B : Nat) (w : World) (tb : Nat) (c d mu : Bool) (fo : Int) (sa : Option Addr) (sn sc : Nat), t.sz ≤ N → shortN t → canN N t = true → NV B w t v → B ≤ w.heap.size → Mk w tb c sa sn sc → Calls Tryz.prog 48 #[.agg #[.pointer (some ⟨tb, 0, none⟩), .bool c, .bool d, .bool mu, .int .i64 fo, .slice sa sn sc], v] w fun e w' => Ans w w' e (errN N t) (fitN c fo d N t))
    (tb : Nat) (c d mu : Bool) (fo : Int) (sa : Option Addr) (sn sc : Nat) (k m a b : Int) (g : Bool) (n : ByteArray) (ta : Option Addr) (tl tc : Nat) (ka : Option Addr) (kl kc : Nat) (B : Nat) (ks : List Nd) (w : World) (hM : Mk w tb c sa sn sc) (hkl : ks.length = kl) (hkv : KV B w ka ks) (hB : B ≤ w.heap.size) (hsz : szL ks ≤ N) (hsh : shortL ks) (hcan : ∀ x ∈ ks, canN N x = true) (hm : classK m kl = true) :
    Calls Tryz.prog 68 #[.agg #[.pointer (some ⟨tb, 0, none⟩), .bool c, .bool d, .bool mu, .int .i64 fo, .slice sa sn sc], .agg #[.int .i64 k, .int .i64 m, .int .i64 a, .int .i64 b, .bool g, .string n, .slice ta tl tc, .slice ka kl kc]] w fun e w' => Ans w w' e (firstE (ks.map (errN N))) (negP g (combP m (ks.map (fitN c fo d N)))) := by
  obtain ⟨i0, hi, hz0, hz1, hz2⟩ := rng.info_parts infoSets
  have hkn : kl ≤ N := by
    have : ∀ l : List Nd, l.length ≤ szL l := fun l => by
      induction l with
      | nil => simp
      | cons x l ih => rw [szL, List.length_cons]; have : 1 ≤ x.sz := by obtain ⟨_, _, _, _, _, _, _, q⟩ := x; rw [Nd.sz]; omega
                       omega
    have := this ks
    omega
  have HM : Hid (Mk w tb c sa sn sc) := hM
  have HL : Hid (ks.length = kl) := hkl
  have HK : Hid (KV B w ka ks) := hkv
  have HI : Hid (∀ (t : Nd) (v : Value) (W : World), t ∈ ks → NV B W t v → B ≤ W.heap.size → Below w.heap.size w W → Calls Tryz.prog 48 #[.agg #[.pointer (some ⟨tb, 0, none⟩), .bool c, .bool d, .bool mu, .int .i64 fo, .slice sa sn sc], v] W fun e w' => Ans W w' e (errN N t) (fitN c fo d N t)) := fun t v W ht hv hW hb => ih t v B W tb c d mu fo sa sn sc (by have := szL_mem ht; omega) (short_mem hsh ht) (hcan t ht) hv hW (HM.out.below hb)
  have HCM : Hid (classK m kl = true) := hm
  have bk := (Bk.new w #[.pointer (some ⟨tb, 0, none⟩), .bool c, .bool d, .bool mu, .int .i64 fo, .slice sa sn sc] 81).past (.cells #[.int .i64 k, .int .i64 m, .int .i64 a, .int .i64 b, .bool g, .string n, .slice ta tl tc, .slice ka kl kc] 25)
  have bn := Bk.new (w.alloc (.cells #[.pointer (some ⟨tb, 0, none⟩), .bool c, .bool d, .bool mu, .int .i64 fo, .slice sa sn sc] 81)) #[.int .i64 k, .int .i64 m, .int .i64 a, .int .i64 b, .bool g, .string n, .slice ta tl tc, .slice ka kl kc] 25
  have B0 : Below w.heap.size w ((w.alloc (.cells #[.pointer (some ⟨tb, 0, none⟩), .bool c, .bool d, .bool mu, .int .i64 fo, .slice sa sn sc] 81)).alloc (.cells #[.int .i64 k, .int .i64 m, .int .i64 a, .int .i64 b, .bool g, .string n, .slice ta tl tc, .slice ka kl kc] 25)) := ((Below.refl _ w).alloc (Nat.le_refl _) _).alloc (by simp) _
  rw [World.size_alloc] at bn
  have HBK : Hid (Bk _ w.heap.size #[.pointer (some ⟨tb, 0, none⟩), .bool c, .bool d, .bool mu, .int .i64 fo, .slice sa sn sc] 81) := bk
  have HBN : Hid (Bk _ (w.heap.size + 1) #[.int .i64 k, .int .i64 m, .int .i64 a, .int .i64 b, .bool g, .string n, .slice ta tl tc, .slice ka kl kc] 25) := bn
  have HB0 : Hid (Below w.heap.size w _) := B0
  obtain ⟨pe, hpe⟩ : ∃ x, firstE (ks.map (errN N)) = x := ⟨_, rfl⟩
  rw [hpe]
  have HPE : Hid (firstE (ks.map (errN N)) = pe) := hpe
  unfold Ans
  clear hM hkv hkl ih hsh hcan hm bk bn B0 hpe hsz
  go_enter Tryz.func68, Tryz.ntmps68
  go_wp2
  generalize (w.alloc (.cells #[.pointer (some ⟨tb, 0, none⟩), .bool c, .bool d, .bool mu, .int .i64 fo, .slice sa sn sc] 81)).alloc (.cells #[.int .i64 k, .int .i64 m, .int .i64 a, .int .i64 b, .bool g, .string n, .slice ta tl tc, .slice ka kl kc] 25) = W0 at *
  go_loopw [6, 14] (fun u i wr => ∃ (j : Nat) (L : List St2), j ≤ kl ∧ i = .int .i64 j ∧ Hid (L.length = j) ∧ Hid (SO wr w.heap.size w.heap.size u L) ∧ Hid (SetsOk L ((ks.take j).map (fitN c fo d N))) ∧ Hid (∀ x ∈ ks.take j, errN N x = 0) ∧ Hid (Bk wr w.heap.size #[.pointer (some ⟨tb, 0, none⟩), .bool c, .bool d, .bool mu, .int .i64 fo, .slice sa sn sc] 81) ∧ Hid (Bk wr (w.heap.size + 1) #[.int .i64 k, .int .i64 m, .int .i64 a, .int .i64 b, .bool g, .string n, .slice ta tl tc, .slice ka kl kc] 25) ∧ Hid (Below w.heap.size w wr)) (fun _ i _ => kl - (RowKit.intOf i).toNat)
  case atStart => exact ⟨0, [], Nat.zero_le _, rfl, rfl, SO.nil _ _ _, trivial, fun x h => (by simp at h), HBK, HBN, HB0⟩
  case round =>
    clear HBK HBN HB0
    obtain ⟨j, L, hj, rfl, HLJ, HSO, HOK, HEZ, HBK, HBN, HW⟩ := hrel
    have hlj : L.length ≤ kl := by rw [HLJ.out]; exact hj
    by_cases hlt : j < kl
    · have hlt' : (j : Int) < (kl : Int) := by omega
      obtain ⟨t, ht⟩ := getX HL.out hlt
      obtain ⟨bb, off, rfl, hka⟩ := (HK.out.below (below_less HW.out hB)).some (by have := HL.out; omega)
      obtain ⟨k', m', a', b', g', n', s', kk, sa', sc', ao', cap', rfl, ⟨e0, e1, e2, e3, e4, e5, e6, e7⟩, hv'⟩ := hka.kid ht
      have hmem := List.mem_of_getElem? ht
      have hBr : B ≤ wr.heap.size := Nat.le_trans hB HW.out.size
      have HTK : Hid (ks.take (j + 1) = ks.take j ++ [.mk k' m' a' b' g' n' s' kk]) := takeX ht
      have HER : Hid (¬ errN N (.mk k' m' a' b' g' n' s' kk) = 0 → pe = errN N (.mk k' m' a' b' g' n' s' kk)) := fun h => by rw [← HPE.out]; exact firstE_at (errN N) ks j _ ht HEZ.out h
      generalize s'.length = sl' at *
      generalize kk.length = nk' at *
      have W1 : Below wr.heap.size wr (wr.alloc (.cells #[.int .i64 k', .int .i64 m', .int .i64 a', .int .i64 b', .bool g', .string n', .slice sa' sl' sc', .slice ao' nk' cap'] 25)) := (Below.refl _ wr).alloc (Nat.le_refl _) _
      have HC : Hid (Below w.heap.size w (wr.alloc (.cells #[.int .i64 k', .int .i64 m', .int .i64 a', .int .i64 b', .bool g', .string n', .slice sa' sl' sc', .slice ao' nk' cap'] 25))) := HW.out.trans (W1.mono HW.out.size)
      have C := HI.out _ _ (wr.alloc (.cells #[.int .i64 k', .int .i64 m', .int .i64 a', .int .i64 b', .bool g', .string n', .slice sa' sl' sc', .slice ao' nk' cap'] 25)) hmem (hv'.on W1 hBr) (by simp; omega) HC.out
      have HBK2 : Hid (Bk (wr.alloc (.cells #[.int .i64 k', .int .i64 m', .int .i64 a', .int .i64 b', .bool g', .string n', .slice sa' sl' sc', .slice ao' nk' cap'] 25)) w.heap.size #[.pointer (some ⟨tb, 0, none⟩), .bool c, .bool d, .bool mu, .int .i64 fo, .slice sa sn sc] 81) := HBK.out.on W1
      have HBN2 : Hid (Bk (wr.alloc (.cells #[.int .i64 k', .int .i64 m', .int .i64 a', .int .i64 b', .bool g', .string n', .slice sa' sl' sc', .slice ao' nk' cap'] 25)) (w.heap.size + 1) #[.int .i64 k, .int .i64 m, .int .i64 a, .int .i64 b, .bool g, .string n, .slice ta tl tc, .slice (some ⟨bb, off, none⟩) kl kc] 25) := HBN.out.on W1
      have HSO2 : Hid (SO (wr.alloc (.cells #[.int .i64 k', .int .i64 m', .int .i64 a', .int .i64 b', .bool g', .string n', .slice sa' sl' sc', .slice ao' nk' cap'] 25)) w.heap.size w.heap.size u6 L) := HSO.out.below W1
      obtain ⟨x0, x1, x2, x3, x4, x5, _⟩ := cells7 HBK2.out HBN2.out 1 (.int .i64 m) rfl
      have HFI : Hid (∀ q : St2, IsP q.2 (fitN c fo d N (.mk k' m' a' b' g' n' s' kk)) → SetsOk (L ++ [q]) ((ks.take (j + 1)).map (fitN c fo d N))) := fun q hq => by rw [HTK.out, List.map_append]; exact HOK.out.snoc hq
      have HE2 : Hid (errN N (.mk k' m' a' b' g' n' s' kk) = 0 → ∀ x ∈ ks.take (j + 1), errN N x = 0) := fun h x hx => by
        rw [HTK.out] at hx
        rcases List.mem_append.1 hx with hx | hx
        · exact HEZ.out x hx
        · obtain rfl := List.mem_singleton.1 hx; exact h
      clear HK HW hka hv' ht hmem W1 HI HBK HBN HSO HTK HOK HEZ
      generalize errN N (.mk k' m' a' b' g' n' s' kk) = er at *
      generalize fitN c fo d N (.mk k' m' a' b' g' n' s' kk) = fp at *
      unfold Ans at C
      go_wp2_with fail
      refine C.mono ?_
      rintro e w2 ⟨v2, r, rfl, o2, i2, j2, b2⟩
      clear C x0 x1 x2 x3 x4 x5
      have HO2 : Hid (rng.Own w2 w.heap.size v2 r) := own_mn o2 HC.out.size
      have HW2 : Hid (Below w.heap.size w w2) := HC.out.trans (b2.mono HC.out.size)
      obtain ⟨ya, yc, hv2⟩ := own_sl o2
      subst hv2
      by_cases hre : er = 0
      · subst hre
        have HOK2 : Hid (SetsOk (L ++ [(.slice ya r.length yc, r)]) ((ks.take (j + 1)).map (fitN c fo d N))) := HFI.out (_, r) (i2 rfl)
        have HE3 : Hid (∀ x ∈ ks.take (j + 1), errN N x = 0) := HE2.out rfl
        have HSO3 : Hid (SO w2 w.heap.size w.heap.size u6 L) := HSO2.out.below b2
        have HBK3 : Hid (Bk w2 w.heap.size #[.pointer (some ⟨tb, 0, none⟩), .bool c, .bool d, .bool mu, .int .i64 fo, .slice sa sn sc] 81) := HBK2.out.on b2
        have HBNc : Hid (Bk w2 (w.heap.size + 1) #[.int .i64 k, .int .i64 m, .int .i64 a, .int .i64 b, .bool g, .string n, .slice ta tl tc, .slice (some ⟨bb, off, none⟩) kl kc] 25) := HBN2.out.on b2
        clear i2 j2 o2 b2 HSO2 HBK2 HBN2 HC HER HFI HE2
        have hsx := HW2.out.size
        generalize r.length = rn at *
        go_wp2_with (at_builtin; refine wpList_append_own _ rfl _ _ 153 rfl w.heap.size 22 i0 (.slice none 0 0) 1 24 Tryz.underlying153 hi hz0 hz1 hz2 rfl (by decide) _ L.length _ rfl (HSO3.out.row.alloc _) ⟨w2.heap.size, 0, none⟩ 1 1 [.slice ya rn yc] rfl rfl (one_set w2 _) (one_cell ya rn yc) ?c3 ?c4 ?c5 ?_)
        case c3 => unfold maxLen; omega
        case c4 => omega
        case c5 => first | omega | (simp; omega)
        intro v' w9 hown9 hgrow _
        have R1 : Hid (SO w9 w.heap.size w.heap.size v' (L ++ [(.slice ya rn yc, r)])) := (HSO3.out.alloc _).snoc _ _ hown9 hgrow (HO2.out.below ((Below.refl _ _).alloc (Nat.le_refl _) _))
        have R2 : Hid (Below w.heap.size w w9) := Below.grown (HW2.out.alloc hsx _) hgrow (by simp; omega) (fun k e => (HSO3.out.row.lt k e).1)
        have R3 : Hid ((L ++ [((.slice ya rn yc : Value), r)]).length = j + 1) := by show _ = _; rw [List.length_append, HLJ.out]; rfl
        have R4 : Hid (Bk w9 w.heap.size #[.pointer (some ⟨tb, 0, none⟩), .bool c, .bool d, .bool mu, .int .i64 fo, .slice sa sn sc] 81) := fld.grow_block hgrow HBK3.out (fld.row_ne HSO3.out.row HBK3.out (by decide))
        have R5 : Hid (Bk w9 (w.heap.size + 1) #[.int .i64 k, .int .i64 m, .int .i64 a, .int .i64 b, .bool g, .string n, .slice ta tl tc, .slice (some ⟨bb, off, none⟩) kl kc] 25) := fld.grow_block hgrow HBNc.out (fld.row_ne HSO3.out.row HBNc.out (by decide))
        clear hown9 hgrow HSO3 HBK3 HBNc HW2 HO2 hlj
        go_wp2
        go_roundw
        case rel => exact ⟨j + 1, _, by omega, by go_num, R3, R1, HOK2, HE3, R4, R5, R2⟩
        case measure => simp [RowKit.intOf]; omega
      · have hre2 : (er == 0) = false := by rw [beq_eq_false_iff_ne]; exact hre
        have HP9 : Hid (pe = er) := HER.out hre
        have HRE : Hid (¬ er = 0) := hre
        have hre3 : (er != 0) = true := by simpa using hre
        clear HER HFI HE2 i2 j2 o2 b2 HSO2 HBK2 HBN2 HC HO2
        generalize r.length = rn at *
        go_wp2
        go_ret2
        exact ⟨_, [], by rw [HP9.out]; rfl, rng.Own.nil _ _, fun h => absurd (HP9.out.symm.trans h) HRE.out, fun _ => rfl, HW2.out⟩
    · obtain rfl : j = kl := by omega
      have hlt' : ¬ (j : Int) < (j : Int) := by omega
      have hOK : SetsOk L (ks.map (fitN c fo d N)) := by
        have h9 := HOK.out
        rw [List.take_of_length_le (by rw [HL.out]; exact Nat.le_refl _)] at h9
        exact h9
      have HP0 : Hid (pe = 0) := by
        have h9 := HEZ.out
        rw [List.take_of_length_le (by rw [HL.out]; exact Nat.le_refl _)] at h9
        show _ = _
        rw [← HPE.out]
        exact firstE_none _ _ h9
      have HCB : Hid (∀ W, Below wr.heap.size wr W → Calls Tryz.prog 102 #[.int .i64 m, u6] W fun e w' => ∃ v' r, e = .returned v' ∧ rng.Own w' W.heap.size v' r ∧ IsP r (combP m (ks.map (fitN c fo d N))) ∧ Below W.heap.size W w') := fun W hb => combined_any w.heap.size w.heap.size m u6 L _ W (HSO.out.below hb) hOK (by omega) (by rw [HLJ.out]; exact HCM.out)
      obtain ⟨ua, uc, hu⟩ := lin.own_slice HSO.out.row
      subst hu
      clear HOK hOK HSO HPE HEZ HI HK
      have x := cells2 HBN.out 1 (.int .i64 m) rfl 4 (.bool g) rfl
      generalize L.length = Ln at *
      go_wp2
      go_region_held3 (fun w' => w'.cell? ⟨w.heap.size + 1, 1, none⟩ = some (.int .i64 m) ∧ w'.cell? ⟨w.heap.size + 1, 4, none⟩ = some (.bool g)) (go_keep) (first
        | (go_at_call 102; refine (HCB.out _ (Below.refl _ _).drew).mono ?_; rintro e w1 ⟨v1, r1, rfl, o1, i1, b0⟩; have b1 : Below wr.heap.size wr w1 := (Below.refl _ wr).drew.trans b0; have O1 : Hid (rng.Own w1 w.heap.size v1 r1) := own_mn o1 HW.out.size; have I1 : Hid (IsP r1 (combP m (ks.map (fitN c fo d N)))) := i1; have B1 : Hid (Below w.heap.size w w1) := HW.out.trans (b1.mono HW.out.size); have z := cells2 (HBN.out.on b1) 1 (.int .i64 m) rfl 4 (.bool g) rfl; have HBN1 : Hid (Bk w1 (w.heap.size + 1) _ _) := HBN.out.on b1; clear o1 i1 b0 b1)
        | (go_at_call 101; refine (turned_any _ _ _ _ _ _ O1.out B1.out.size I1.out).mono ?_; rintro e w3 ⟨v3, r3, rfl, o3, i3, b3⟩; have O3 : Hid (rng.Own w3 w.heap.size v3 r3) := o3; have I3 : Hid (IsP r3 (negP g (combP m (ks.map (fitN c fo d N))))) := i3; have B3 : Hid (Below w.heap.size w w3) := B1.out.trans (b3.mono B1.out.size); have y := cells2 (HBN1.out.on b3) 1 (.int .i64 m) rfl 4 (.bool g) rfl; clear o3 i3 b3))
      all_goals go_wp2
      all_goals go_ret2
      all_goals exact ⟨_, r3, by rw [HP0.out]; rfl, O3.out, fun _ => I3.out, fun h => absurd HP0.out h, B3.out⟩
set_option maxHeartbeats 2000000 in
set_option maxRecDepth 1000000 in
theorem set_3 (er : Int) (P : Int → Prop) (tb : Nat) (c d mu : Bool) (fo : Int) (sa : Option Addr) (sn sc : Nat) (m a b : Int) (g : Bool) (n : ByteArray) (ta : Option Addr) (tl tc : Nat) (ka : Option Addr) (kl kc : Nat) (w : World) (hC : Calls Tryz.prog 68 #[.agg #[.pointer (some ⟨tb, 0, none⟩), .bool c, .bool d, .bool mu, .int .i64 fo, .slice sa sn sc], .agg #[.int .i64 3, .int .i64 m, .int .i64 a, .int .i64 b, .bool g, .string n, .slice ta tl tc, .slice ka kl kc]] ((w.alloc (.cells #[.pointer (some ⟨tb, 0, none⟩), .bool c, .bool d, .bool mu, .int .i64 fo, .slice sa sn sc] 81)).alloc (.cells #[.int .i64 3, .int .i64 m, .int .i64 a, .int .i64 b, .bool g, .string n, .slice ta tl tc, .slice ka kl kc] 25)) fun e w' => Ans ((w.alloc (.cells #[.pointer (some ⟨tb, 0, none⟩), .bool c, .bool d, .bool mu, .int .i64 fo, .slice sa sn sc] 81)).alloc (.cells #[.int .i64 3, .int .i64 m, .int .i64 a, .int .i64 b, .bool g, .string n, .slice ta tl tc, .slice ka kl kc] 25)) w' e er P) :
    Calls Tryz.prog 48 #[.agg #[.pointer (some ⟨tb, 0, none⟩), .bool c, .bool d, .bool mu, .int .i64 fo, .slice sa sn sc], .agg #[.int .i64 3, .int .i64 m, .int .i64 a, .int .i64 b, .bool g, .string n, .slice ta tl tc, .slice ka kl kc]] w fun e w' => Ans w w' e er P := by
  have HB0 : Hid (Below w.heap.size w ((w.alloc (.cells #[.pointer (some ⟨tb, 0, none⟩), .bool c, .bool d, .bool mu, .int .i64 fo, .slice sa sn sc] 81)).alloc (.cells #[.int .i64 3, .int .i64 m, .int .i64 a, .int .i64 b, .bool g, .string n, .slice ta tl tc, .slice ka kl kc] 25))) := ((Below.refl _ w).alloc (Nat.le_refl _) _).alloc (by simp) _
  unfold Ans at hC ⊢
  have C := hC
  clear hC
  go_enter Tryz.func48, Tryz.ntmps48
  go_wp2_with fail
  refine C.mono ?_
  rintro e w1 ⟨v1, r, rfl, o1, i1, j1, b1⟩
  clear C
  have O1 : Hid (rng.Own w1 w.heap.size v1 r) := own_mn o1 HB0.out.size
  have I1 : Hid (er = 0 → IsP r P) := i1
  have J1 : Hid (¬ er = 0 → r = []) := j1
  have B1 : Hid (Below w.heap.size w w1) := HB0.out.trans (b1.mono HB0.out.size)
  obtain ⟨ya, yc, hy⟩ := own_sl o1
  subst hy
  clear o1 i1 j1 b1
  generalize r.length = rn at *
  go_wp2
  go_ret2
  exact ⟨_, r, rfl, O1.out, I1.out, J1.out, B1.out⟩
theorem set_t : ∀ (N : Nat), N ≤ 300 → ∀ (t : Nd) (v : Value) (B : Nat) (w : World) (tb : Nat) (c d mu : Bool) (fo : Int) (sa : Option Addr) (sn sc : Nat), t.sz ≤ N → shortN t → canN N t = true → NV B w t v → B ≤ w.heap.size → Mk w tb c sa sn sc → Calls Tryz.prog 48 #[.agg #[.pointer (some ⟨tb, 0, none⟩), .bool c, .bool d, .bool mu, .int .i64 fo, .slice sa sn sc], v] w fun e w' => Ans w w' e (errN N t) (fitN c fo d N t) := by
  intro N
  induction N with
  | zero => intro _ t v B w tb c d mu fo sa sn sc h; obtain ⟨k, m, a, b, g, n, s, ks⟩ := t; rw [Nd.sz] at h; omega
  | succ N ih =>
    intro hN t v B w tb c d mu fo sa sn sc hsz hsh hcan hv hB hM
    obtain ⟨k, m, a, b, g, n, s, ks, ta, tc, ka, kc, rfl, rfl, _, _, _, _, _, _, hkv⟩ := hv.open
    rw [Nd.sz] at hsz
    rw [shortN] at hsh
    obtain ⟨hc1, hc2⟩ := can_all hcan
    simp only [Nd.kids, Nd.kind, Nd.mode] at hc1 hc2
    have hE : errN (N + 1) (.mk k m a b g n s ks) = if k = 5 then propE n else if k = 3 then firstE (ks.map (errN N)) else 0 := by rw [errN]; rfl
    have hF : fitN c fo d (N + 1) (.mk k m a b g n s ks) = if k = 1 then wideP c fo (fun x => x = a) else if k = 4 then wideP c fo (fun x => a ≤ x ∧ x ≤ b) else if k = 5 then negP g (wideP c fo (propP n)) else if k = 3 then negP g (combP m (ks.map (fitN c fo d N))) else anyP d := by rw [fitN]; rfl
    by_cases h1 : k = 1
    · subst h1
      rw [hE, hF, if_neg (by decide), if_neg (by decide), if_pos rfl]
      exact set_1 tb c d mu fo sa sn sc m a b g n ta s.length tc ka ks.length kc w hM
    by_cases h4 : k = 4
    · subst h4
      rw [hE, hF, if_neg (by decide), if_neg (by decide), if_neg (by decide), if_pos rfl]
      exact set_4 tb c d mu fo sa sn sc m a b g n ta s.length tc ka ks.length kc w hM
    by_cases h5 : k = 5
    · subst h5
      rw [hE, hF, if_pos rfl, if_neg (by decide), if_neg (by decide), if_pos rfl]
      exact set_5 tb c d mu fo sa sn sc m a b g n ta s.length tc ka ks.length kc w hM hsh.1
    by_cases h3 : k = 3
    · subst h3
      rw [hE, hF, if_neg (by decide), if_pos rfl, if_neg (by decide), if_neg (by decide), if_neg (by decide), if_pos rfl]
      have B0 : Below w.heap.size w ((w.alloc (.cells #[.pointer (some ⟨tb, 0, none⟩), .bool c, .bool d, .bool mu, .int .i64 fo, .slice sa sn sc] 81)).alloc (.cells #[.int .i64 3, .int .i64 m, .int .i64 a, .int .i64 b, .bool g, .string n, .slice ta s.length tc, .slice ka ks.length kc] 25)) := ((Below.refl _ w).alloc (Nat.le_refl _) _).alloc (by simp) _
      exact set_3 _ _ tb c d mu fo sa sn sc m a b g n ta s.length tc ka ks.length kc w (class_any N (by omega) (ih (by omega)) tb c d mu fo sa sn sc 3 m a b g n ta s.length tc ka ks.length kc B ks _ (hM.below B0) rfl (hkv.below (below_less B0 hB)) (by simp; omega) (by omega) hsh.2 hc1 (by simpa [leafK] using hc2))
    · have f1 : (k == 1) = false := by rw [beq_eq_false_iff_ne]; exact h1
      have f4 : (k == 4) = false := by rw [beq_eq_false_iff_ne]; exact h4
      have f5 : (k == 5) = false := by rw [beq_eq_false_iff_ne]; exact h5
      have f3 : (k == 3) = false := by rw [beq_eq_false_iff_ne]; exact h3
      rw [hE, hF, if_neg h5, if_neg h3, if_neg h1, if_neg h4, if_neg h5, if_neg h3]
      exact set_any2 tb c d mu fo sa sn sc k m a b g n ta s.length tc ka ks.length kc w f1 f4 f5 f3
end Go.Proofs.YtinlolmjafjhnaaGreatDoor.cls
end
