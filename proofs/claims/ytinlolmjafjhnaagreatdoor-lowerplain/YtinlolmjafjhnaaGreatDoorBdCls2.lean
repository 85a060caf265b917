/- Texts that the proof leans on, one behind the other. -/
import Derived.Test.YtinlolmjafjhnaaGreatDoorBdCls1
import Derived.Deep.RegionHeld3
import Derived.Deep.RegionWith
import Derived.Test.YtinlolmjafjhnaaGreatDoorBdNod1

section
/- property: the set of a property, or the error. -/
set_option linter.unusedVariables false
set_option linter.unusedSimpArgs false
namespace Go.Proofs.YtinlolmjafjhnaaGreatDoor.cls
open Go.RowKit
open Go.Proofs.YtinlolmjafjhnaaGreatDoor.rng (R has IsSet Sl code CanF RV)
open Go.Proofs.YtinlolmjafjhnaaGreatDoor.dcp (sinL fullL)
open Go.Proofs.YtinlolmjafjhnaaGreatDoor.nod

theorem tl_ne {X Y : ByteArray} (h : X ≠ Y) : ¬ X.toList = Y.toList := fun e => h (by obtain ⟨⟨x⟩⟩ := X; obtain ⟨⟨y⟩⟩ := Y; simpa using e)
set_option maxHeartbeats 1000000 in
theorem expr_any (n : ByteArray) (w : World) : Calls Tryz.prog 99 #[.string n] w fun e w' => e = .returned (.slice (some ⟨w.heap.size, 0, none⟩) (exprs n).length (exprs n).length) ∧ w' = w.alloc (.cells ((exprs n).map Value.string).toArray 9) := by
 by_cases h1 : n = ⟨#[100]⟩
 ·subst h1
  go_enter Tryz.func99, Tryz.ntmps99
  go_wp2
  go_ret
  exact ⟨rfl, rfl⟩
 by_cases h2 : n = ⟨#[119]⟩
 ·subst h2
  go_enter Tryz.func99, Tryz.ntmps99
  go_wp2
  go_ret
  exact ⟨rfl, rfl⟩
 by_cases h3 : n = ⟨#[115]⟩
 ·subst h3
  go_enter Tryz.func99, Tryz.ntmps99
  go_wp2
  go_ret
  exact ⟨rfl, rfl⟩
 have e : exprs n = [n] := by unfold exprs; rw [if_neg h1, if_neg h2, if_neg h3]
 rw [e]
 have q1 : ¬ n.toList = [100] := by have := tl_ne h1; simpa using this
 have q2 : ¬ n.toList = [119] := by have := tl_ne h2; simpa using this
 have q3 : ¬ n.toList = [115] := by have := tl_ne h3; simpa using this
 have r1 : (n.toList == [100]) = false := by simpa using q1
 have r2 : (n.toList == [119]) = false := by simpa using q2
 have r3 : (n.toList == [115]) = false := by simpa using q3
 clear h1 h2 h3 e
 go_enter Tryz.func99, Tryz.ntmps99
 go_wp2
 go_ret
 exact ⟨rfl, rfl⟩
theorem exprs_len (n : ByteArray) : (exprs n).length ≤ 5 := by
 unfold exprs
 (repeat' split) <;> simp
theorem exprs_size (n : ByteArray) (h : n.size ≤ 140737488355327) : ∀ s ∈ exprs n, s.size ≤ 140737488355327 := by
 intro s hs
 unfold exprs at hs
 (repeat' split at hs) <;> simp at hs <;> (repeat' (rcases hs with rfl | hs)) <;> first | exact h | decide | (subst hs; first | exact h | decide)
theorem firstE_at {α : Type} (f : α → Int) : ∀ (l : List α) (k : Nat) (s : α), l[k]? = some s → (∀ x ∈ l.take k, f x = 0) → ¬ f s = 0 → firstE (l.map f) = f s
 | [], k, s, h, _, _ => by simp at h
 | x :: l, 0, s, h, _, hs => by simp at h; subst h; exact firstE_cons hs
 | x :: l, k + 1, s, h, h0, hs => by
  rw [List.map_cons, firstE_cons0 (h0 x (by simp))]
  exact firstE_at f l k s (by simpa using h) (fun y hy => h0 y (by simp [hy])) hs
theorem firstE_none {α : Type} (f : α → Int) (l : List α) (h : ∀ x ∈ l, f x = 0) : firstE (l.map f) = 0 := firstE_zero _ (fun e he => by obtain ⟨x, hx, rfl⟩ := List.mem_map.1 he; exact h x hx)
def PropOk (L : List St2) (es : List ByteArray) : Prop := (∀ x, code x = true → (has (catL L) x = true ↔ ∃ s ∈ es, prp.setP (nam.resolveV s) x = true)) ∧ (∀ q ∈ L, q.2.length ≤ 557056) ∧ ∀ s ∈ es, (nam.resolveV s).2.2 = 0
theorem PropOk.nil : PropOk [] [] := ⟨fun x _ => by simp [catL, cat, has], fun q h => (by cases h), fun s h => (by cases h)⟩
theorem PropOk.snoc {L : List St2} {es : List ByteArray} (h : PropOk L es) {s : ByteArray} {v : Value} {r : List R} (h0 : (nam.resolveV s).2.2 = 0) (hr : IsSet r (prp.setP (nam.resolveV s))) : PropOk (L ++ [(v, r)]) (es ++ [s]) := by
 refine ⟨fun x hx => ?_, fun q hq => ?_, fun y hy => ?_⟩
 ·rw [catL_snoc, rng.has_append, Bool.or_eq_true, h.1 x hx, hr.2 x hx]
  constructor
  ·rintro (⟨y, hy, e⟩ | e)
   ·exact ⟨y, by simp [hy], e⟩
   ·exact ⟨s, by simp, e⟩
  ·rintro ⟨y, hy, e⟩
   rcases List.mem_append.1 hy with hy | hy
   ·exact .inl ⟨y, hy, e⟩
   ·obtain rfl := List.mem_singleton.1 hy
    exact .inr e
 ·rcases List.mem_append.1 hq with hq | hq
  ·exact h.2.1 q hq
  ·obtain rfl := List.mem_singleton.1 hq
   exact rng.can_len hr.1
 ·rcases List.mem_append.1 hy with hy | hy
  ·exact h.2.2 y hy
  ·obtain rfl := List.mem_singleton.1 hy
   exact h0
theorem catL_len {L : List St2} {k : Nat} (h : ∀ q ∈ L, q.2.length ≤ 557056) (hk : L.length ≤ k) : (catL L).length ≤ k * 557056 := by
 have := cat_len (ls := L.map Prod.snd) (k := 557056) (fun l hl => by obtain ⟨q, hq, rfl⟩ := List.mem_map.1 hl; exact h q hq)
 rw [List.length_map] at this
 unfold catL
 exact Nat.le_trans this (Nat.mul_le_mul_right _ hk)
theorem cells7 {W : World} {g h : Nat} {T T' : TypeId} {p0 p1 p2 p3 p4 p5 k0 k1 k2 k3 k4 k5 k6 k7 : Value} (BK : Bk W g #[p0, p1, p2, p3, p4, p5] T) (BN : Bk W h #[k0, k1, k2, k3, k4, k5, k6, k7] T') (i : Nat) (u : Value) (hu : #[k0, k1, k2, k3, k4, k5, k6, k7][i]? = some u) :
  W.cell? ⟨g, 0, none⟩ = some p0 ∧ W.cell? ⟨g, 1, none⟩ = some p1 ∧ W.cell? ⟨g, 2, none⟩ = some p2 ∧ W.cell? ⟨g, 3, none⟩ = some p3 ∧ W.cell? ⟨g, 4, none⟩ = some p4 ∧ W.cell? ⟨g, 5, none⟩ = some p5 ∧ W.cell? ⟨h, i, none⟩ = some u :=
 ⟨BK.cell 0 rfl, BK.cell 1 rfl, BK.cell 2 rfl, BK.cell 3 rfl, BK.cell 4 rfl, BK.cell 5 rfl, BN.cell i hu⟩
set_option maxHeartbeats 4000000 in
set_option maxRecDepth 1000000 in
theorem property_any (tb : Nat) (c d mu : Bool) (fo : Int) (sa : Option Addr) (sn sc : Nat) (k m a b : Int) (g : Bool) (n : ByteArray) (ta : Option Addr) (tl tc : Nat) (ka : Option Addr) (kl kc : Nat) (w : World) (hT : prp.Tabs w tb) (hE : prp.Env w) (hsn : (sgl c).length = sn) (hS : prp.IV w (.slice sa sn sc) (sgl c)) (hn : n.size ≤ 140737488355327) :
  Calls Tryz.prog 67 #[.agg #[.pointer (some ⟨tb, 0, none⟩), .bool c, .bool d, .bool mu, .int .i64 fo, .slice sa sn sc], .agg #[.int .i64 k, .int .i64 m, .int .i64 a, .int .i64 b, .bool g, .string n, .slice ta tl tc, .slice ka kl kc]] w fun e w' =>
   ∃ v' r, e = .returned (.tuple #[v', .int .i64 (propE n)]) ∧ rng.Own w' w.heap.size v' r ∧ (propE n = 0 → IsP r (negP g (wideP c fo (propP n)))) ∧ (¬ propE n = 0 → r = []) ∧ Below w.heap.size w w' := by
 obtain ⟨i0, hi, hz0, hz1, hz2⟩ := rng.info_parts infoSets
 have HT : Hid (prp.Tabs w tb) := hT
 have HE : Hid (prp.Env w) := hE
 have HS : Hid (prp.IV w (.slice sa sn sc) (sgl c)) := hS
 have HSN : Hid ((sgl c).length = sn) := hsn
 have HES : Hid (∀ s ∈ exprs n, s.size ≤ 140737488355327) := exprs_size n hn
 have C := expr_any n ((w.alloc (.cells #[.pointer (some ⟨tb, 0, none⟩), .bool c, .bool d, .bool mu, .int .i64 fo, .slice sa sn sc] 81)).alloc (.cells #[.int .i64 k, .int .i64 m, .int .i64 a, .int .i64 b, .bool g, .string n, .slice ta tl tc, .slice ka kl kc] 25))
 have hK5 := exprs_len n
 have HPE : Hid (propE n = firstE ((exprs n).map fun s => (nam.resolveV s).2.2)) := rfl
 have HPP : Hid (∀ x, propP n x ↔ ∃ s ∈ exprs n, prp.setP (nam.resolveV s) x = true) := fun x => Iff.rfl
 generalize exprs n = es at *
 obtain ⟨pe, hpe⟩ : ∃ x, propE n = x := ⟨_, rfl⟩
 rw [hpe] at HPE ⊢
 obtain ⟨K, hK⟩ : ∃ x, es.length = x := ⟨_, rfl⟩
 have HK : Hid (es.length = K) := hK
 rw [hK] at C hK5
 have bk := (Bk.new w #[.pointer (some ⟨tb, 0, none⟩), .bool c, .bool d, .bool mu, .int .i64 fo, .slice sa sn sc] 81).past (.cells #[.int .i64 k, .int .i64 m, .int .i64 a, .int .i64 b, .bool g, .string n, .slice ta tl tc, .slice ka kl kc] 25)
 have bn := Bk.new (w.alloc (.cells #[.pointer (some ⟨tb, 0, none⟩), .bool c, .bool d, .bool mu, .int .i64 fo, .slice sa sn sc] 81)) #[.int .i64 k, .int .i64 m, .int .i64 a, .int .i64 b, .bool g, .string n, .slice ta tl tc, .slice ka kl kc] 25
 have B0 : Below w.heap.size w ((w.alloc (.cells #[.pointer (some ⟨tb, 0, none⟩), .bool c, .bool d, .bool mu, .int .i64 fo, .slice sa sn sc] 81)).alloc (.cells #[.int .i64 k, .int .i64 m, .int .i64 a, .int .i64 b, .bool g, .string n, .slice ta tl tc, .slice ka kl kc] 25)) := ((Below.refl _ w).alloc (Nat.le_refl _) _).alloc (by simp) _
 rw [World.size_alloc] at bn
 have HBK : Hid (Bk _ w.heap.size #[.pointer (some ⟨tb, 0, none⟩), .bool c, .bool d, .bool mu, .int .i64 fo, .slice sa sn sc] 81) := bk
 have HBN : Hid (Bk _ (w.heap.size + 1) #[.int .i64 k, .int .i64 m, .int .i64 a, .int .i64 b, .bool g, .string n, .slice ta tl tc, .slice ka kl kc] 25) := bn
 have HB0 : Hid (Below w.heap.size w _) := B0
 clear hT hE hS hsn hn bk bn B0 hpe hK
 go_enter Tryz.func67, Tryz.ntmps67
 go_wp2_with fail
 refine C.mono ?_
 rintro e w1 ⟨rfl, hw1⟩
 clear C
 generalize (w.alloc (.cells #[.pointer (some ⟨tb, 0, none⟩), .bool c, .bool d, .bool mu, .int .i64 fo, .slice sa sn sc] 81)).alloc (.cells #[.int .i64 k, .int .i64 m, .int .i64 a, .int .i64 b, .bool g, .string n, .slice ta tl tc, .slice ka kl kc] 25) = W0 at *
 have HX : Hid (Bk w1 W0.heap.size (es.map Value.string).toArray 9) := by show Bk _ _ _ _; rw [hw1]; exact Bk.new W0 _ _
 have bw : Below W0.heap.size W0 w1 := by rw [hw1]; exact (Below.refl _ W0).alloc (Nat.le_refl _) _
 have HBK1 : Hid (Bk w1 w.heap.size #[.pointer (some ⟨tb, 0, none⟩), .bool c, .bool d, .bool mu, .int .i64 fo, .slice sa sn sc] 81) := HBK.out.on bw
 have HBN1 : Hid (Bk w1 (w.heap.size + 1) #[.int .i64 k, .int .i64 m, .int .i64 a, .int .i64 b, .bool g, .string n, .slice ta tl tc, .slice ka kl kc] 25) := HBN.out.on bw
 have HB1 : Hid (Below w.heap.size w w1) := HB0.out.trans (bw.mono HB0.out.size)
 generalize W0.heap.size = eb at *
 clear hw1 bw HBK HBN HB0
 go_wp2
 go_loopw [6, 15] (fun u i wr => ∃ (j : Nat) (L : List St2), j ≤ K ∧ i = .int .i64 j ∧ Hid (L.length = j) ∧ Hid (SO wr w.heap.size w.heap.size u L) ∧ Hid (PropOk L (es.take j)) ∧ Hid (Bk wr w.heap.size #[.pointer (some ⟨tb, 0, none⟩), .bool c, .bool d, .bool mu, .int .i64 fo, .slice sa sn sc] 81) ∧ Hid (Bk wr (w.heap.size + 1) #[.int .i64 k, .int .i64 m, .int .i64 a, .int .i64 b, .bool g, .string n, .slice ta tl tc, .slice ka kl kc] 25) ∧ Hid (Bk wr eb (es.map Value.string).toArray 9) ∧ Hid (Below w.heap.size w wr)) (fun _ i _ => K - (RowKit.intOf i).toNat)
 case atStart => exact ⟨0, [], Nat.zero_le _, rfl, rfl, SO.nil _ _ _, PropOk.nil, HBK1, HBN1, HX, HB1⟩
 case round =>
  clear HBK1 HBN1 HX HB1
  obtain ⟨j, L, hj, rfl, HLJ, HSO, HOK, HBK, HBN, HX, HW⟩ := hrel
  have hlj : L.length ≤ K := by rw [HLJ.out]; exact hj
  by_cases hlt : j < K
  ·have hlt' : (j : Int) < (K : Int) := by omega
   obtain ⟨s, hs⟩ := getX HK.out hlt
   have xe := HX.out.cell j (u := .string s) (by simp [hs])
   have x0 := HBK.out.cell 0 (u := .pointer (some ⟨tb, 0, none⟩)) rfl
   have C := prp.set_t tb s wr (HT.out.below HW.out) (HES.out s (List.mem_of_getElem? hs))
   have HTK : Hid (es.take (j + 1) = es.take j ++ [s]) := takeX hs
   have HEZ : Hid (¬ (nam.resolveV s).2.2 = 0 → pe = (nam.resolveV s).2.2) := fun h => by rw [HPE.out]; exact firstE_at (fun s => (nam.resolveV s).2.2) es j s hs (fun x hx => HOK.out.2.2 x hx) h
   clear hs
   have HRS : Hid (∀ r v, (nam.resolveV s).2.2 = 0 → IsSet r (prp.setP (nam.resolveV s)) → PropOk (L ++ [(v, r)]) (es.take (j + 1))) := fun r v h0 hr => by rw [HTK.out]; exact HOK.out.snoc h0 hr
   generalize nam.resolveV s = rs at *
   obtain ⟨rk, rv, re⟩ := rs
   simp only at C HEZ HRS
   go_wp2_with fail
   refine C.mono ?_
   rintro e w2 ⟨v2, r, rfl, o2, hr, b2⟩
   clear C x0 xe
   have HR : Hid (IsSet r (prp.setP (rk, rv, re))) := hr
   have HO2 : Hid (rng.Own w2 w.heap.size v2 r) := own_mn o2 HW.out.size
   have HW2 : Hid (Below w.heap.size w w2) := HW.out.trans (b2.mono HW.out.size)
   obtain ⟨ya, yc, hv2⟩ := own_sl o2
   subst hv2
   by_cases hre : re = 0
   ·subst hre
    have HOK2 : Hid (PropOk (L ++ [(.slice ya r.length yc, r)]) (es.take (j + 1))) := HRS.out r _ rfl HR.out
    have HSO2 : Hid (SO w2 w.heap.size w.heap.size u6 L) := HSO.out.below b2
    have HBK2 : Hid (Bk w2 w.heap.size #[.pointer (some ⟨tb, 0, none⟩), .bool c, .bool d, .bool mu, .int .i64 fo, .slice sa sn sc] 81) := HBK.out.on b2
    have HBN2 : Hid (Bk w2 (w.heap.size + 1) #[.int .i64 k, .int .i64 m, .int .i64 a, .int .i64 b, .bool g, .string n, .slice ta tl tc, .slice ka kl kc] 25) := HBN.out.on b2
    have HX2 : Hid (Bk w2 eb (es.map Value.string).toArray 9) := HX.out.on b2
    clear hr o2 b2 HSO HBK HBN HX HW HEZ HRS HR HOK HTK
    have hsx := HW2.out.size
    generalize r.length = rn at *
    go_wp2_with (at_builtin; refine wpList_append_own _ rfl _ _ 153 rfl w.heap.size 22 i0 (.slice none 0 0) 1 24 Tryz.underlying153 hi hz0 hz1 hz2 rfl (by decide) _ L.length _ rfl (HSO2.out.row.alloc _) ⟨w2.heap.size, 0, none⟩ 1 1 [.slice ya rn yc] rfl rfl (one_set w2 _) (one_cell ya rn yc) ?c3 ?c4 ?c5 ?_)
    case c3 => unfold maxLen; omega
    case c4 => omega
    case c5 => first | omega | (simp; omega)
    intro v' w9 hown9 hgrow _
    have R1 : Hid (SO w9 w.heap.size w.heap.size v' (L ++ [(.slice ya rn yc, r)])) := (HSO2.out.alloc _).snoc _ _ hown9 hgrow (HO2.out.below ((Below.refl _ _).alloc (Nat.le_refl _) _))
    have R2 : Hid (Below w.heap.size w w9) := Below.grown (HW2.out.alloc hsx _) hgrow (by simp; omega) (fun k e => (HSO2.out.row.lt k e).1)
    have R3 : Hid ((L ++ [((.slice ya rn yc : Value), r)]).length = j + 1) := by show _ = _; rw [List.length_append, HLJ.out]; rfl
    have R4 : Hid (Bk w9 w.heap.size #[.pointer (some ⟨tb, 0, none⟩), .bool c, .bool d, .bool mu, .int .i64 fo, .slice sa sn sc] 81) := fld.grow_block hgrow HBK2.out (fld.row_ne HSO2.out.row HBK2.out (by decide))
    have R5 : Hid (Bk w9 (w.heap.size + 1) #[.int .i64 k, .int .i64 m, .int .i64 a, .int .i64 b, .bool g, .string n, .slice ta tl tc, .slice ka kl kc] 25) := fld.grow_block hgrow HBN2.out (fld.row_ne HSO2.out.row HBN2.out (by decide))
    have R6 : Hid (Bk w9 eb (es.map Value.string).toArray 9) := fld.grow_block hgrow HX2.out (fld.row_ne HSO2.out.row HX2.out (by decide))
    clear hown9 hgrow HSO2 HBK2 HBN2 HX2 HW2 HO2 hlj
    go_wp2
    go_roundw
    case rel => exact ⟨j + 1, _, by omega, by go_num, R3, R1, HOK2, R4, R5, R6, R2⟩
    case measure => simp [RowKit.intOf]; omega
   ·have hre2 : (re == 0) = false := by rw [beq_eq_false_iff_ne]; exact hre
    have HP9 : Hid (pe = re) := HEZ.out hre
    have HRE : Hid (¬ re = 0) := hre
    have hre3 : (re != 0) = true := by simpa using hre
    clear HEZ HRS hr o2 b2 HSO HBK HBN HX HW HO2 HOK HTK HR
    generalize r.length = rn at *
    go_wp2
    go_ret2
    exact ⟨_, [], by rw [HP9.out]; rfl, rng.Own.nil _ _, fun h => absurd (HP9.out.symm.trans h) HRE.out, fun _ => rfl, HW2.out⟩
  ·obtain rfl : j = K := by omega
   have hlt' : ¬ (j : Int) < (j : Int) := by omega
   have hOKa : PropOk L es := by
    have h9 := HOK.out
    rw [List.take_of_length_le (by rw [HK.out]; exact Nat.le_refl _)] at h9
    exact h9
   have HP0 : Hid (pe = 0) := by show _ = _; rw [HPE.out]; exact firstE_none _ _ hOKa.2.2
   have hcl : (catL L).length ≤ 200000000 := by have := catL_len hOKa.2.1 hlj; omega
   have HCA : Hid (∀ x, code x = true → (has (catL L) x = true ↔ propP n x)) := fun x hx => by rw [HPP.out]; exact hOKa.1 x hx
   have HJ : Hid (∀ W, Below wr.heap.size wr W → Calls Tryz.prog 97 #[u6] W fun e w' => ∃ v' r, e = .returned v' ∧ rng.Own w' W.heap.size v' r ∧ IsSet r (has (catL L)) ∧ Below W.heap.size W w') := fun W hb => join_any w.heap.size w.heap.size u6 L W (HSO.out.below hb) (by omega) hcl
   have HWD : Hid (∀ (A : Nat) (v : Value) (x : List R) (W : World), Below w.heap.size w W → A ≤ W.heap.size → rng.Own W A v x → IsSet x (has (catL L)) → Calls Tryz.prog 65 #[.agg #[.pointer (some ⟨tb, 0, none⟩), .bool c, .bool d, .bool mu, .int .i64 fo, .slice sa sn sc], v] W fun e w' => ∃ v' r, e = .returned v' ∧ rng.Own w' W.heap.size v' r ∧ IsP r (wideP c fo (propP n)) ∧ Below W.heap.size W w') := fun A v x W hb hA ho hx => widened_any tb c d mu fo sa sn sc A v x (propP n) W (HT.out.below hb) (HE.out.below hb) HSN.out (HS.out.below hb) hA ho (fun y hy => by rw [hx.2 y hy]; exact HCA.out y hy) (by have := rng.can_len hx.1; omega)
   obtain ⟨ua, uc, hu⟩ := lin.own_slice HSO.out.row
   subst hu
   clear HOK hOKa hcl HCA HSO HX HPE HPP HES
   have x0 := HBK.out.cell 0 (u := .pointer (some ⟨tb, 0, none⟩)) rfl
   have x1 := HBK.out.cell 1 (u := .bool c) rfl
   have x2 := HBK.out.cell 2 (u := .bool d) rfl
   have x3 := HBK.out.cell 3 (u := .bool mu) rfl
   have x4 := HBK.out.cell 4 (u := .int .i64 fo) rfl
   have x5 := HBK.out.cell 5 (u := .slice sa sn sc) rfl
   have y4 := HBN.out.cell 4 (u := .bool g) rfl
   have HWr : Hid (Below wr.heap.size wr wr) := Below.refl _ _
   generalize L.length = Ln at *
   go_wp2
   go_region_held3 (fun w' => w'.cell? ⟨w.heap.size, 0, none⟩ = some (.pointer (some ⟨tb, 0, none⟩)) ∧ w'.cell? ⟨w.heap.size, 1, none⟩ = some (.bool c) ∧ w'.cell? ⟨w.heap.size, 2, none⟩ = some (.bool d) ∧ w'.cell? ⟨w.heap.size, 3, none⟩ = some (.bool mu) ∧ w'.cell? ⟨w.heap.size, 4, none⟩ = some (.int .i64 fo) ∧ w'.cell? ⟨w.heap.size, 5, none⟩ = some (.slice sa sn sc) ∧ w'.cell? ⟨w.heap.size + 1, 4, none⟩ = some (.bool g)) (go_keep) (first
    | (go_at_call 97; refine (HJ.out _ (Below.refl _ _).drew).mono ?_; rintro e w1 ⟨v1, r1, rfl, o1, i1, b0⟩; have b1 : Below wr.heap.size wr w1 := (Below.refl _ wr).drew.trans b0; have O1 : Hid (rng.Own w1 wr.heap.size v1 r1) := o1; have I1 : Hid (IsSet r1 (has (catL L))) := i1; have B1 : Hid (Below w.heap.size w w1) := HW.out.trans (b1.mono HW.out.size); have BK1 := HBK.out.on b1; have BN1 := HBN.out.on b1; have z := cells7 BK1 BN1 4 (.bool g) rfl; have HBK1 : Hid (Bk w1 w.heap.size #[.pointer (some ⟨tb, 0, none⟩), .bool c, .bool d, .bool mu, .int .i64 fo, .slice sa sn sc] 81) := BK1; have HBN1 : Hid (Bk w1 (w.heap.size + 1) #[.int .i64 k, .int .i64 m, .int .i64 a, .int .i64 b, .bool g, .string n, .slice ta tl tc, .slice ka kl kc] 25) := BN1; have S1 : Hid (wr.heap.size ≤ w1.heap.size) := b1.size; clear o1 i1 b0 b1 BK1 BN1)
    | (go_at_call 65; refine (HWD.out _ _ _ _ B1.out S1.out O1.out I1.out).mono ?_; rintro e w2 ⟨v2, r2, rfl, o2, i2, b2⟩; have O2 : Hid (rng.Own w2 w.heap.size v2 r2) := own_mn o2 B1.out.size; have I2 : Hid (IsP r2 (wideP c fo (propP n))) := i2; have B2 : Hid (Below w.heap.size w w2) := B1.out.trans (b2.mono B1.out.size); have BK2 := HBK1.out.on b2; have BN2 := HBN1.out.on b2; have y := cells7 BK2 BN2 4 (.bool g) rfl; have HBK2 : Hid (Bk w2 w.heap.size #[.pointer (some ⟨tb, 0, none⟩), .bool c, .bool d, .bool mu, .int .i64 fo, .slice sa sn sc] 81) := BK2; have HBN2 : Hid (Bk w2 (w.heap.size + 1) #[.int .i64 k, .int .i64 m, .int .i64 a, .int .i64 b, .bool g, .string n, .slice ta tl tc, .slice ka kl kc] 25) := BN2; clear o2 i2 b2 BK2 BN2)
    | (go_at_call 101; refine (turned_any _ _ _ _ _ _ O2.out B2.out.size I2.out).mono ?_; rintro e w3 ⟨v3, r3, rfl, o3, i3, b3⟩; have O3 : Hid (rng.Own w3 w.heap.size v3 r3) := o3; have I3 : Hid (IsP r3 (negP g (wideP c fo (propP n)))) := i3; have B3 : Hid (Below w.heap.size w w3) := B2.out.trans (b3.mono B2.out.size); have x := cells7 (HBK2.out.on b3) (HBN2.out.on b3) 4 (.bool g) rfl; clear o3 i3 b3))
   all_goals go_wp2
   all_goals go_ret2
   all_goals exact ⟨_, r3, by rw [HP0.out]; rfl, O3.out, fun _ => I3.out, fun h => absurd HP0.out h, B3.out⟩
end Go.Proofs.YtinlolmjafjhnaaGreatDoor.cls
end

section
/- combined, anything. -/
set_option linter.unusedVariables false
set_option linter.unusedSimpArgs false
namespace Go.Proofs.YtinlolmjafjhnaaGreatDoor.cls
open Go.RowKit
open Go.Proofs.YtinlolmjafjhnaaGreatDoor.rng (R has IsSet Sl code CanF RV)
open Go.Proofs.YtinlolmjafjhnaaGreatDoor.dcp (sinL fullL)
open Go.Proofs.YtinlolmjafjhnaaGreatDoor.nod

/-- Sets and what they have, side by side. -/
def SetsOk : List St2 → List (Int → Prop) → Prop
 | [], [] => True
 | q :: L, P :: Ps => IsP q.2 P ∧ SetsOk L Ps
 | _, _ => False
theorem SetsOk.snoc : ∀ {L : List St2} {Ps : List (Int → Prop)}, SetsOk L Ps → ∀ {q : St2} {P : Int → Prop}, IsP q.2 P → SetsOk (L ++ [q]) (Ps ++ [P])
 | [], [], _, q, P, h => ⟨h, trivial⟩
 | x :: L, Q :: Ps, hs, q, P, h => ⟨hs.1, hs.2.snoc h⟩
 | [], _ :: _, hs, _, _, _ => hs.elim
 | _ :: _, [], hs, _, _, _ => hs.elim
theorem SetsOk.cat : ∀ {L : List St2} {Ps : List (Int → Prop)}, SetsOk L Ps → ∀ x, code x = true → (has (catL L) x = true ↔ ∃ P ∈ Ps, P x)
 | [], [], _, x, _ => by simp [catL, cls.cat, has]
 | q :: L, P :: Ps, hs, x, hx => by
  have h1 : catL (q :: L) = q.2 ++ catL L := rfl
  rw [h1, rng.has_append, Bool.or_eq_true, hs.1.2 x hx, hs.2.cat x hx]
  simp
 | [], _ :: _, hs, _, _ => hs.elim
 | _ :: _, [], hs, _, _ => hs.elim
theorem SetsOk.len : ∀ {L : List St2} {Ps : List (Int → Prop)}, SetsOk L Ps → ∀ q ∈ L, q.2.length ≤ 557056
 | [], [], _, q, h => by cases h
 | x :: L, P :: Ps, hs, q, h => by
  rcases List.mem_cons.1 h with rfl | h
  ·exact hs.1.len
  ·exact hs.2.len q h
 | [], _ :: _, hs, _, _ => hs.elim
 | _ :: _, [], hs, _, _ => hs.elim
theorem comb_two {m : Int} {q1 q2 : St2} {Ps : List (Int → Prop)} {r : List R} {K : Bool → Bool → Bool} (hs : SetsOk [q1, q2] Ps) (hr : IsSet r (fun x => K (has q1.2 x) (has q2.2 x))) (hK : ∀ P Q : Int → Prop, Ps = [P, Q] → ∀ x, code x = true → (has q1.2 x = true ↔ P x) → (has q2.2 x = true ↔ Q x) → (K (has q1.2 x) (has q2.2 x) = true ↔ combP m Ps x)) : IsP r (combP m Ps) := by
 match Ps, hs with
 | [P, Q], hs => exact isP_set hr (fun x hx => hK P Q rfl x hx (hs.1.2 x hx) (hs.2.1.2 x hx))
theorem sl_of {w : World} {A : Nat} {v : Value} {l : List R} (h : rng.Own w A v l) : ∃ a c, v = .slice a l.length c ∧ RV w a l := by
 obtain ⟨a, c, e, hv, _⟩ := h.view
 exact ⟨a, c, e, hv⟩
set_option maxHeartbeats 1000000 in
theorem combined_1 (B A : Nat) (v : Value) (q1 q2 : St2) (Ps : List (Int → Prop)) (w : World) (h : SO w B A v [q1, q2]) (hs : SetsOk [q1, q2] Ps) :
  Calls Tryz.prog 102 #[.int .i64 1, v] w fun e w' => ∃ v' r, e = .returned v' ∧ rng.Own w' w.heap.size v' r ∧ IsP r (combP 1 Ps) ∧ Below w.heap.size w w' := by
 obtain ⟨b, c, rfl, c0, o0⟩ := h.at_ (j := 0) (q := q1) rfl
 obtain ⟨b', c', e', c1, o1⟩ := h.at_ (j := 1) (q := q2) rfl
 injection e' with e1 e2 e3
 injection e1 with e1
 injection e1 with e4 e5 e6
 subst e4 e3
 have l1 := hs.len q1 (by simp)
 have l2 := hs.len q2 (by simp)
 obtain ⟨a1, x1, h1, v1⟩ := sl_of o0
 obtain ⟨a2, x2, h2, v2⟩ := sl_of o1
 rw [h1] at c0
 rw [h2] at c1
 have HC : Hid (∀ W, Below w.heap.size w W → Calls Tryz.prog 141 #[.slice a1 q1.2.length x1, .slice a2 q2.2.length x2] W fun e w' => ∃ v' r, e = .returned v' ∧ rng.Own w' W.heap.size v' r ∧ IsSet r (fun x => (fun a b => a && b) (has q1.2 x) (has q2.2 x)) ∧ Below W.heap.size W w') := fun W hb => rng.meet_any a1 a2 x1 x2 q1.2 q2.2 W (by omega) (by omega) (v1.below hb) (v2.below hb)
 have HF : Hid (∀ r, IsSet r (fun x => (fun a b => a && b) (has q1.2 x) (has q2.2 x)) → IsP r (combP 1 Ps)) := fun r hr => comb_two (K := fun a b => a && b) hs hr (fun P Q e x hx h1 h2 => by subst e; rw [show combP 1 [P, Q] x = (P x ∧ Q x) from rfl, ← h1, ← h2]; cases has q1.2 x <;> cases has q2.2 x <;> simp)
 have C0 : Hid (w.cell? ⟨b, 0, none⟩ = some (.slice a1 q1.2.length x1)) := c0
 have C1 : Hid (w.cell? ⟨b, 1, none⟩ = some (.slice a2 q2.2.length x2)) := c1
 clear h hs e2 e5 e6 l1 l2 o0 o1 h1 h2 v1 v2
 generalize q1.2.length = n1 at *
 generalize q2.2.length = n2 at *
 go_enter Tryz.func102, Tryz.ntmps102
 go_wp2
 go_region_held3 (fun w' => w'.cell? ⟨b, 0, none⟩ = some (.slice a1 n1 x1) ∧ w'.cell? ⟨b, 1, none⟩ = some (.slice a2 n2 x2)) (go_keep) (first
  | (go_at_call 141; refine (HC.out _ (Below.refl _ _).drew).mono ?_; rintro e w1 ⟨v1, r1, rfl, o1, i1, b0⟩; have O1 : Hid (rng.Own w1 w.heap.size v1 r1) := o1; have I1 : Hid (IsP r1 (combP 1 Ps)) := HF.out r1 i1; have b1 : Below w.heap.size w w1 := (Below.refl _ w).drew.trans b0; have B1 : Hid (Below w.heap.size w w1) := b1; have z0 := (b1.cell (World.block_lt_of_cell? w _ C0.out)).trans C0.out; have z1 := (b1.cell (World.block_lt_of_cell? w _ C1.out)).trans C1.out; clear o1 i1 b0 b1))
 all_goals go_wp2
 all_goals go_ret
 all_goals exact ⟨_, r1, rfl, O1.out, I1.out, B1.out⟩
set_option maxHeartbeats 1000000 in
theorem combined_2 (B A : Nat) (v : Value) (q1 q2 : St2) (Ps : List (Int → Prop)) (w : World) (h : SO w B A v [q1, q2]) (hs : SetsOk [q1, q2] Ps) :
  Calls Tryz.prog 102 #[.int .i64 2, v] w fun e w' => ∃ v' r, e = .returned v' ∧ rng.Own w' w.heap.size v' r ∧ IsP r (combP 2 Ps) ∧ Below w.heap.size w w' := by
 obtain ⟨b, c, rfl, c0, o0⟩ := h.at_ (j := 0) (q := q1) rfl
 obtain ⟨b', c', e', c1, o1⟩ := h.at_ (j := 1) (q := q2) rfl
 injection e' with e1 e2 e3
 injection e1 with e1
 injection e1 with e4 e5 e6
 subst e4 e3
 have l1 := hs.len q1 (by simp)
 have l2 := hs.len q2 (by simp)
 obtain ⟨a1, x1, h1, v1⟩ := sl_of o0
 obtain ⟨a2, x2, h2, v2⟩ := sl_of o1
 rw [h1] at c0
 rw [h2] at c1
 have HC : Hid (∀ W, Below w.heap.size w W → Calls Tryz.prog 139 #[.slice a1 q1.2.length x1, .slice a2 q2.2.length x2] W fun e w' => ∃ v' r, e = .returned v' ∧ rng.Own w' W.heap.size v' r ∧ IsSet r (fun x => (fun a b => a && !b) (has q1.2 x) (has q2.2 x)) ∧ Below W.heap.size W w') := fun W hb => rng.minus_any a1 a2 x1 x2 q1.2 q2.2 W (by omega) (by omega) (v1.below hb) (v2.below hb)
 have HF : Hid (∀ r, IsSet r (fun x => (fun a b => a && !b) (has q1.2 x) (has q2.2 x)) → IsP r (combP 2 Ps)) := fun r hr => comb_two (K := fun a b => a && !b) hs hr (fun P Q e x hx h1 h2 => by subst e; rw [show combP 2 [P, Q] x = (P x ∧ ¬ Q x) from rfl, ← h1, ← h2]; cases has q1.2 x <;> cases has q2.2 x <;> simp)
 have C0 : Hid (w.cell? ⟨b, 0, none⟩ = some (.slice a1 q1.2.length x1)) := c0
 have C1 : Hid (w.cell? ⟨b, 1, none⟩ = some (.slice a2 q2.2.length x2)) := c1
 clear h hs e2 e5 e6 l1 l2 o0 o1 h1 h2 v1 v2
 generalize q1.2.length = n1 at *
 generalize q2.2.length = n2 at *
 go_enter Tryz.func102, Tryz.ntmps102
 go_wp2
 go_region_held3 (fun w' => w'.cell? ⟨b, 0, none⟩ = some (.slice a1 n1 x1) ∧ w'.cell? ⟨b, 1, none⟩ = some (.slice a2 n2 x2)) (go_keep) (first
  | (go_at_call 139; refine (HC.out _ (Below.refl _ _).drew).mono ?_; rintro e w1 ⟨v1, r1, rfl, o1, i1, b0⟩; have O1 : Hid (rng.Own w1 w.heap.size v1 r1) := o1; have I1 : Hid (IsP r1 (combP 2 Ps)) := HF.out r1 i1; have b1 : Below w.heap.size w w1 := (Below.refl _ w).drew.trans b0; have B1 : Hid (Below w.heap.size w w1) := b1; have z0 := (b1.cell (World.block_lt_of_cell? w _ C0.out)).trans C0.out; have z1 := (b1.cell (World.block_lt_of_cell? w _ C1.out)).trans C1.out; clear o1 i1 b0 b1))
 all_goals go_wp2
 all_goals go_ret
 all_goals exact ⟨_, r1, rfl, O1.out, I1.out, B1.out⟩
set_option maxHeartbeats 1000000 in
theorem combined_3 (B A : Nat) (v : Value) (q1 q2 : St2) (Ps : List (Int → Prop)) (w : World) (h : SO w B A v [q1, q2]) (hs : SetsOk [q1, q2] Ps) :
  Calls Tryz.prog 102 #[.int .i64 3, v] w fun e w' => ∃ v' r, e = .returned v' ∧ rng.Own w' w.heap.size v' r ∧ IsP r (combP 3 Ps) ∧ Below w.heap.size w w' := by
 obtain ⟨b, c, rfl, c0, o0⟩ := h.at_ (j := 0) (q := q1) rfl
 obtain ⟨b', c', e', c1, o1⟩ := h.at_ (j := 1) (q := q2) rfl
 injection e' with e1 e2 e3
 injection e1 with e1
 injection e1 with e4 e5 e6
 subst e4 e3
 have l1 := hs.len q1 (by simp)
 have l2 := hs.len q2 (by simp)
 obtain ⟨a1, x1, h1, v1⟩ := sl_of o0
 obtain ⟨a2, x2, h2, v2⟩ := sl_of o1
 rw [h1] at c0
 rw [h2] at c1
 have HC : Hid (∀ W, Below w.heap.size w W → Calls Tryz.prog 148 #[.slice a1 q1.2.length x1, .slice a2 q2.2.length x2] W fun e w' => ∃ v' r, e = .returned v' ∧ rng.Own w' W.heap.size v' r ∧ IsSet r (fun x => (fun a b => a != b) (has q1.2 x) (has q2.2 x)) ∧ Below W.heap.size W w') := fun W hb => rng.xor_any a1 a2 x1 x2 q1.2 q2.2 W (by omega) (by omega) (v1.below hb) (v2.below hb)
 have HF : Hid (∀ r, IsSet r (fun x => (fun a b => a != b) (has q1.2 x) (has q2.2 x)) → IsP r (combP 3 Ps)) := fun r hr => comb_two (K := fun a b => a != b) hs hr (fun P Q e x hx h1 h2 => by subst e; rw [show combP 3 [P, Q] x = ¬ (P x ↔ Q x) from rfl, ← h1, ← h2]; cases has q1.2 x <;> cases has q2.2 x <;> simp)
 have C0 : Hid (w.cell? ⟨b, 0, none⟩ = some (.slice a1 q1.2.length x1)) := c0
 have C1 : Hid (w.cell? ⟨b, 1, none⟩ = some (.slice a2 q2.2.length x2)) := c1
 clear h hs e2 e5 e6 l1 l2 o0 o1 h1 h2 v1 v2
 generalize q1.2.length = n1 at *
 generalize q2.2.length = n2 at *
 go_enter Tryz.func102, Tryz.ntmps102
 go_wp2
 go_region_held3 (fun w' => w'.cell? ⟨b, 0, none⟩ = some (.slice a1 n1 x1) ∧ w'.cell? ⟨b, 1, none⟩ = some (.slice a2 n2 x2)) (go_keep) (first
  | (go_at_call 148; refine (HC.out _ (Below.refl _ _).drew).mono ?_; rintro e w1 ⟨v1, r1, rfl, o1, i1, b0⟩; have O1 : Hid (rng.Own w1 w.heap.size v1 r1) := o1; have I1 : Hid (IsP r1 (combP 3 Ps)) := HF.out r1 i1; have b1 : Below w.heap.size w w1 := (Below.refl _ w).drew.trans b0; have B1 : Hid (Below w.heap.size w w1) := b1; have z0 := (b1.cell (World.block_lt_of_cell? w _ C0.out)).trans C0.out; have z1 := (b1.cell (World.block_lt_of_cell? w _ C1.out)).trans C1.out; clear o1 i1 b0 b1))
 all_goals go_wp2
 all_goals go_ret
 all_goals exact ⟨_, r1, rfl, O1.out, I1.out, B1.out⟩
set_option maxHeartbeats 1000000 in
theorem combined_0 (B A : Nat) (v : Value) (L : List St2) (Ps : List (Int → Prop)) (w : World) (h : SO w B A v L) (hs : SetsOk L Ps) (hn : L.length ≤ 350) :
  Calls Tryz.prog 102 #[.int .i64 0, v] w fun e w' => ∃ v' r, e = .returned v' ∧ rng.Own w' w.heap.size v' r ∧ IsP r (combP 0 Ps) ∧ Below w.heap.size w w' := by
 have hcl := catL_len hs.len hn
 have C := join_any B A v L w h (by omega) (by omega)
 have HF : Hid (∀ r, IsSet r (has (catL L)) → IsP r (combP 0 Ps)) := fun r hr => isP_set hr (fun x hx => by rw [hs.cat x hx]; rfl)
 obtain ⟨ua, uc, hu⟩ := lin.own_slice h.row
 subst hu
 clear h hs hcl
 generalize L.length = n at *
 go_enter Tryz.func102, Tryz.ntmps102
 go_wp2_with fail
 refine C.mono ?_
 rintro e w1 ⟨v1, r1, rfl, o1, i1, b1⟩
 clear C
 have O1 : Hid (rng.Own w1 w.heap.size v1 r1) := o1
 have I1 : Hid (IsP r1 (combP 0 Ps)) := HF.out r1 i1
 clear o1 i1
 go_wp2
 go_ret
 exact ⟨_, r1, rfl, O1.out, I1.out, b1⟩
theorem combined_any (B A : Nat) (m : Int) (v : Value) (L : List St2) (Ps : List (Int → Prop)) (w : World) (h : SO w B A v L) (hs : SetsOk L Ps) (hn : L.length ≤ 350) (hm : classK m L.length = true) :
  Calls Tryz.prog 102 #[.int .i64 m, v] w fun e w' => ∃ v' r, e = .returned v' ∧ rng.Own w' w.heap.size v' r ∧ IsP r (combP m Ps) ∧ Below w.heap.size w w' := by
 by_cases h0 : m = 0
 ·subst h0; exact combined_0 B A v L Ps w h hs hn
 have h2 : (m = 1 ∨ m = 2 ∨ m = 3) ∧ L.length = 2 := by
  unfold classK at hm
  simp [h0] at hm
  omega
 obtain ⟨hm2, hl⟩ := h2
 match L, hl with
 | [q1, q2], _ =>
  rcases hm2 with rfl | rfl | rfl
  ·exact combined_1 B A v q1 q2 Ps w h hs
  ·exact combined_2 B A v q1 q2 Ps w h hs
  ·exact combined_3 B A v q1 q2 Ps w h hs
theorem SO.lit {w : World} {A : Nat} {L : List St2} (h : ∀ q ∈ L, rng.Own w A q.1 q.2) (hn : L.length ≤ 1000) : SO (w.alloc (.cells (L.map Prod.fst).toArray 22)) w.heap.size A (.slice (some ⟨w.heap.size, 0, none⟩) L.length L.length) L := by
 refine ⟨⟨by simp, .inr ⟨w.heap.size, L.length, (L.map Prod.fst).toArray, rfl, Nat.le_refl _, World.alloc_heap_new _ _, Nat.le_refl _, by unfold maxLen; omega, by simp, by simp [List.take_of_length_le]⟩⟩, fun q hq => ?_⟩
 exact (h q hq).below ((Below.refl _ _).alloc (Nat.le_refl _) _)
set_option maxHeartbeats 2000000 in
theorem anything_any (tb : Nat) (c d mu : Bool) (fo : Int) (sa : Option Addr) (sn sc : Nat) (w : World) :
  Calls Tryz.prog 69 #[.agg #[.pointer (some ⟨tb, 0, none⟩), .bool c, .bool d, .bool mu, .int .i64 fo, .slice sa sn sc]] w fun e w' => ∃ v' r, e = .returned v' ∧ rng.Own w' w.heap.size v' r ∧ IsP r (anyP d) ∧ Below w.heap.size w w' := by
 have HB0 : Hid (Below w.heap.size w (w.alloc (.cells #[.pointer (some ⟨tb, 0, none⟩), .bool c, .bool d, .bool mu, .int .i64 fo, .slice sa sn sc] 81))) := (Below.refl _ w).alloc (Nat.le_refl _) _
 cases d with
 | true =>
  have C := rng.not_any none 0 [] (w.alloc (.cells #[.pointer (some ⟨tb, 0, none⟩), .bool c, .bool true, .bool mu, .int .i64 fo, .slice sa sn sc] 81)) (by decide) (.inl rfl)
  go_enter Tryz.func69, Tryz.ntmps69
  go_wp2_with fail
  refine C.mono ?_
  rintro e w1 ⟨v1, r, rfl, o1, hr, b1⟩
  clear C
  have O1 : Hid (rng.Own w1 w.heap.size v1 r) := own_mn o1 HB0.out.size
  have I1 : Hid (IsP r (anyP true)) := isP_set hr (fun x hx => by simp [anyP, has])
  have B1 : Hid (Below w.heap.size w w1) := HB0.out.trans (b1.mono HB0.out.size)
  obtain ⟨ya, yc, hy⟩ := own_sl o1
  subst hy
  clear o1 hr b1
  generalize r.length = n at *
  go_wp2
  go_ret
  exact ⟨_, r, rfl, O1.out, I1.out, B1.out⟩
 | false =>
  have C := span_o 10 10 (w.alloc (.cells #[.pointer (some ⟨tb, 0, none⟩), .bool c, .bool false, .bool mu, .int .i64 fo, .slice sa sn sc] 81))
  go_enter Tryz.func69, Tryz.ntmps69
  go_wp2_with fail
  refine C.mono ?_
  rintro e w1 ⟨v1, rfl, o1, b1⟩
  clear C
  have B1 : Hid (Below w.heap.size w w1) := HB0.out.trans (b1.mono HB0.out.size)
  have O1 : Hid (rng.Own w1 w.heap.size v1 [(10, 10)]) := own_mn o1 HB0.out.size
  clear o1 b1 HB0
  have C := span_o 13 13 w1
  go_wp2_with fail
  refine C.mono ?_
  rintro e w2 ⟨v2, rfl, o2, b2⟩
  clear C
  have B2 : Hid (Below w.heap.size w w2) := B1.out.trans (b2.mono B1.out.size)
  have P1 : Hid (rng.Own w2 w.heap.size v1 [(10, 10)]) := O1.out.below b2
  have O2 : Hid (rng.Own w2 w.heap.size v2 [(13, 13)]) := own_mn o2 B1.out.size
  clear o2 b2 O1 B1
  have C := span_o 133 133 w2
  go_wp2_with fail
  refine C.mono ?_
  rintro e w3 ⟨v3, rfl, o3, b3⟩
  clear C
  have B3 : Hid (Below w.heap.size w w3) := B2.out.trans (b3.mono B2.out.size)
  have Q1 : Hid (rng.Own w3 w.heap.size v1 [(10, 10)]) := P1.out.below b3
  have Q2 : Hid (rng.Own w3 w.heap.size v2 [(13, 13)]) := O2.out.below b3
  have O3 : Hid (rng.Own w3 w.heap.size v3 [(133, 133)]) := own_mn o3 B2.out.size
  clear o3 b3 O2 P1 B2
  have C := span_o 8232 8233 w3
  go_wp2_with fail
  refine C.mono ?_
  rintro e w4 ⟨v4, rfl, o4, b4⟩
  clear C
  have B4 : Hid (Below w.heap.size w w4) := B3.out.trans (b4.mono B3.out.size)
  have R1 : Hid (rng.Own w4 w.heap.size v1 [(10, 10)]) := Q1.out.below b4
  have R2 : Hid (rng.Own w4 w.heap.size v2 [(13, 13)]) := Q2.out.below b4
  have R3 : Hid (rng.Own w4 w.heap.size v3 [(133, 133)]) := O3.out.below b4
  have R4 : Hid (rng.Own w4 w.heap.size v4 [(8232, 8233)]) := own_mn o4 B3.out.size
  clear o4 b4 Q1 Q2 O3 B3
  have so := SO.lit (w := w4) (A := w.heap.size) (L := [(v1, [(10, 10)]), (v2, [(13, 13)]), (v3, [(133, 133)]), (v4, [(8232, 8233)])]) (by
   intro q hq
   simp only [List.mem_cons, List.mem_nil_iff, or_false] at hq
   rcases hq with rfl | rfl | rfl | rfl
   ·exact R1.out
   ·exact R2.out
   ·exact R3.out
   ·exact R4.out) (by simp)
  have C := join_any _ _ _ _ _ so (by simp) (by simp [catL, cat])
  have B5 : Hid (Below w.heap.size w (w4.alloc (.cells #[v1, v2, v3, v4] 22))) := B4.out.alloc B4.out.size _
  have S5 : Hid (w.heap.size ≤ (w4.alloc (.cells #[v1, v2, v3, v4] 22)).heap.size) := B5.out.size
  obtain ⟨a1, c1, h1⟩ := own_sl R1.out
  obtain ⟨a2, c2, h2⟩ := own_sl R2.out
  obtain ⟨a3, c3, h3⟩ := own_sl R3.out
  obtain ⟨a4, c4, h4⟩ := own_sl R4.out
  subst h1 h2 h3 h4
  clear so R1 R2 R3 R4 B4
  go_wp2_with fail
  refine C.mono ?_
  rintro e w6 ⟨v6, r, rfl, o6, hr, b6⟩
  clear C
  have B6 : Hid (Below w.heap.size w w6) := B5.out.trans (b6.mono S5.out)
  have hl := rng.can_len hr.1
  obtain ⟨xa, xc, hx, hrv⟩ := sl_of o6
  subst hx
  have C := rng.not_any xa xc r w6 (by omega) hrv
  have HR : Hid (IsSet r (has [(10, 10), (13, 13), (133, 133), (8232, 8233)])) := hr
  clear o6 hr b6 B5 S5 hrv hl
  generalize r.length = n at *
  go_wp2_with fail
  refine C.mono ?_
  rintro e w7 ⟨v7, s, rfl, o7, hs, b7⟩
  clear C
  have O7 : Hid (rng.Own w7 w.heap.size v7 s) := own_mn o7 B6.out.size
  have I7 : Hid (IsP s (anyP false)) := isP_set hs (fun x hx => by
   rw [HR.out.2 x hx]
   unfold anyP
   simp)
  have B7 : Hid (Below w.heap.size w w7) := B6.out.trans (b7.mono B6.out.size)
  obtain ⟨ya, yc, hy⟩ := own_sl o7
  subst hy
  clear o7 hs b7 HR
  generalize s.length = n2 at *
  go_wp2
  go_ret
  exact ⟨_, s, rfl, O7.out, I7.out, B7.out⟩
end Go.Proofs.YtinlolmjafjhnaaGreatDoor.cls
end

section
/- Trees whose names are short. -/
set_option linter.unusedVariables false
set_option linter.unusedSimpArgs false
namespace Go.Proofs.YtinlolmjafjhnaaGreatDoor.cls
open Go.RowKit
open Go.Proofs.YtinlolmjafjhnaaGreatDoor.nod

mutual
def shortN : Nd → Prop
 | .mk _ _ _ _ _ n _ ks => n.size ≤ 140737488355327 ∧ shortL ks
def shortL : List Nd → Prop
 | [] => True
 | t :: ts => shortN t ∧ shortL ts
end
theorem short_mem {t : Nd} : ∀ {ks : List Nd}, shortL ks → t ∈ ks → shortN t
 | [], _, h => by cases h
 | x :: ks, hs, h => by
  rw [shortL] at hs
  rcases List.mem_cons.1 h with rfl | h
  ·exact hs.1
  ·exact short_mem hs.2 h
end Go.Proofs.YtinlolmjafjhnaaGreatDoor.cls
end

section
/- can: whether a node, and all below it, have sets. -/
set_option linter.unusedVariables false
set_option linter.unusedSimpArgs false
namespace Go.Proofs.YtinlolmjafjhnaaGreatDoor.cls
open Go.RowKit
open Go.Proofs.YtinlolmjafjhnaaGreatDoor.rng (R has IsSet Sl code CanF Own RV)
open Go.Proofs.YtinlolmjafjhnaaGreatDoor.nod

set_option maxHeartbeats 1000000 in
theorem canClass_any (k m a b : Int) (g : Bool) (n : ByteArray) (sa : Option Addr) (sl sc : Nat) (ao : Option Addr) (nk cap : Nat) (w : World) :
  Calls Tryz.prog 63 #[.agg #[.int .i64 k, .int .i64 m, .int .i64 a, .int .i64 b, .bool g, .string n, .slice sa sl sc, .slice ao nk cap]] w fun e w' => e = .returned (.bool (classK m nk)) ∧ Below w.heap.size w w' := by
 have HB : Hid (Below w.heap.size w (w.alloc (.cells #[.int .i64 k, .int .i64 m, .int .i64 a, .int .i64 b, .bool g, .string n, .slice sa sl sc, .slice ao nk cap] 25))) := (Below.refl _ w).alloc (Nat.le_refl _) _
 have HQ : Hid (((nk : Int) == 2) = (nk == 2)) := by show _ = _; rw [Bool.eq_iff_iff]; simp; omega
 unfold classK
 by_cases c : m = 0 ∨ m = 1 ∨ m = 2 ∨ m = 3
 ·rcases c with rfl | rfl | rfl | rfl <;> (go_enter Tryz.func63, Tryz.ntmps63; go_wp2; go_ret; exact ⟨rng.ret_bool (by first | rfl | (rw [HQ.out]; rfl)), HB.out⟩)
 ·have e0 : (m == 0) = false := by rw [beq_eq_false_iff_ne]; omega
  have e1 : (m == 1) = false := by rw [beq_eq_false_iff_ne]; omega
  have e2 : (m == 2) = false := by rw [beq_eq_false_iff_ne]; omega
  have e3 : (m == 3) = false := by rw [beq_eq_false_iff_ne]; omega
  rw [e0, e1, e2, e3]
  clear c
  go_enter Tryz.func63, Tryz.ntmps63
  go_wp2
  go_ret
  exact ⟨rfl, HB.out⟩
theorem can_all {N : Nat} {t : Nd} (h : canN (N + 1) t = true) : (∀ x ∈ t.kids, canN N x = true) ∧ (leafK t.kind || (t.kind == 3 && classK t.mode t.kids.length)) = true := by
 rw [canN, Bool.and_eq_true, List.all_eq_true] at h
 exact h
set_option maxRecDepth 10000 in
set_option maxHeartbeats 4000000 in
theorem can_any : ∀ (N : Nat) (t : Nd) (v : Value) (B : Nat) (w : World), t.sz ≤ N → NV B w t v → B ≤ w.heap.size →
  Calls Tryz.prog 46 #[v] w fun e w' => e = .returned (.bool (canN N t)) ∧ Below w.heap.size w w' := by
 intro N
 induction N with
 | zero => intro t v B w h; obtain ⟨k, m, a, b, g, n, s, ks⟩ := t; rw [Nd.sz] at h; omega
 | succ N ih =>
  intro t v B w hN hv hBw
  obtain ⟨k, m, a, b, g, n, s, ks, sa, sc, ao, cap, rfl, rfl, _, _, _, hk1, hk2, _, hkv⟩ := hv.open
  rw [Nd.sz] at hN
  clear hv
  have HQ : Hid (canN (N + 1) (.mk k m a b g n s ks) = (ks.all (canN N) && (leafK k || (k == 3 && classK m ks.length)))) := by show _ = _; rw [canN]; rfl
  obtain ⟨RR, hRR⟩ : ∃ x, canN (N + 1) (.mk k m a b g n s ks) = x := ⟨_, rfl⟩
  rw [hRR]
  have HRR : Hid (RR = (ks.all (canN N) && (leafK k || (k == 3 && classK m ks.length)))) := hRR.symm.trans HQ.out
  clear hRR HQ
  obtain ⟨nk, hnk⟩ : ∃ nk, ks.length = nk := ⟨_, rfl⟩
  have HL : Hid (ks.length = nk) := hnk
  have HK : Hid (KV B w ao ks) := hkv
  have HI : Hid (∀ (t : Nd) (v : Value) (W : World), t ∈ ks → NV B W t v → B ≤ W.heap.size → Calls Tryz.prog 46 #[v] W fun e w' => e = .returned (.bool (canN N t)) ∧ Below W.heap.size W w') := fun t v W hm hv hs => by
   have := szL_mem hm
   exact ih t v B W (by omega) hv hs
  rw [hnk] at hk1 HRR ⊢
  generalize hsl : s.length = sl
  clear hsl
  have hk3 : nk ≤ 9223372036854775807 := by unfold maxLen at hk2; omega
  have bk := Bk.new w #[.int .i64 k, .int .i64 m, .int .i64 a, .int .i64 b, .bool g, .string n, .slice sa sl sc, .slice ao nk cap] 25
  have HBK : Hid (Bk (w.alloc (.cells #[.int .i64 k, .int .i64 m, .int .i64 a, .int .i64 b, .bool g, .string n, .slice sa sl sc, .slice ao nk cap] 25)) w.heap.size #[.int .i64 k, .int .i64 m, .int .i64 a, .int .i64 b, .bool g, .string n, .slice sa sl sc, .slice ao nk cap] 25) := bk
  have HB : Hid (Below w.heap.size w (w.alloc (.cells #[.int .i64 k, .int .i64 m, .int .i64 a, .int .i64 b, .bool g, .string n, .slice sa sl sc, .slice ao nk cap] 25))) := (Below.refl _ w).alloc (Nat.le_refl _) _
  clear hkv ih hN hnk bk
  go_enter Tryz.func46, Tryz.ntmps46
  go_wp2
  go_loopw [8] (fun i wr => ∃ j : Nat, j ≤ nk ∧ i = .int .i64 j ∧ Hid ((ks.take j).all (canN N) = true) ∧ Hid (Bk wr w.heap.size #[.int .i64 k, .int .i64 m, .int .i64 a, .int .i64 b, .bool g, .string n, .slice sa sl sc, .slice ao nk cap] 25) ∧ Hid (Below w.heap.size w wr)) (fun i _ => nk - (intOf i).toNat)
  case atStart => exact ⟨0, Nat.zero_le _, rfl, rfl, HBK, HB⟩
  case round =>
   clear HBK HB
   obtain ⟨j, hj, rfl, HA, HBK, HW⟩ := hrel
   by_cases hlt : j < nk
   ·have hlt' : (j : Int) < (nk : Int) := by omega
    obtain ⟨t, ht⟩ := getX HL.out hlt
    obtain ⟨bb, off, rfl, hka⟩ := (HK.out.below (below_less HW.out hBw)).some (by have := HL.out; omega)
    obtain ⟨k', m', a', b', g', n', s', kk, sa', sc', ao', cap', rfl, ⟨e0, e1, e2, e3, e4, e5, e6, e7⟩, hv'⟩ := hka.kid ht
    have hmem := List.mem_of_getElem? ht
    have hBr : B ≤ wr.heap.size := Nat.le_trans hBw HW.out.size
    have HT : Hid (∀ x, canN N (.mk k' m' a' b' g' n' s' kk) = x → (ks.take (j + 1)).all (canN N) = x) := fun x hx => by
     rw [takeX ht, List.all_append, HA.out]; simp [hx]
    have HF : Hid (canN N (.mk k' m' a' b' g' n' s' kk) = false → ks.all (canN N) = false) := fun hx => by
     rw [List.all_eq_false]; exact ⟨_, hmem, by rw [hx]; decide⟩
    generalize s'.length = sl' at *
    generalize kk.length = nk' at *
    have W1 : Below wr.heap.size wr (wr.alloc (.cells #[.int .i64 k', .int .i64 m', .int .i64 a', .int .i64 b', .bool g', .string n', .slice sa' sl' sc', .slice ao' nk' cap'] 25)) := (Below.refl _ wr).alloc (Nat.le_refl _) _
    have C := HI.out _ _ (wr.alloc (.cells #[.int .i64 k', .int .i64 m', .int .i64 a', .int .i64 b', .bool g', .string n', .slice sa' sl' sc', .slice ao' nk' cap'] 25)) hmem (hv'.on W1 hBr) (by simp; omega)
    have HC : Hid (Below w.heap.size w (wr.alloc (.cells #[.int .i64 k', .int .i64 m', .int .i64 a', .int .i64 b', .bool g', .string n', .slice sa' sl' sc', .slice ao' nk' cap'] 25))) := HW.out.trans (W1.mono HW.out.size)
    have HBK2 : Hid (Bk (wr.alloc (.cells #[.int .i64 k', .int .i64 m', .int .i64 a', .int .i64 b', .bool g', .string n', .slice sa' sl' sc', .slice ao' nk' cap'] 25)) w.heap.size #[.int .i64 k, .int .i64 m, .int .i64 a, .int .i64 b, .bool g, .string n, .slice sa sl sc, .slice (some ⟨bb, off, none⟩) nk cap] 25) := HBK.out.on W1
    clear HK HW hka hv' ht hmem W1 HI HBK HA
    generalize canN N (.mk k' m' a' b' g' n' s' kk) = r at *
    cases r with
    | false =>
     have hx : Hid (RR = false) := by show _ = _; rw [HRR.out, HF.out rfl]; rfl
     clear HF HT HRR
     go_wp2_with (go_at_call 46; refine C.mono ?_; rintro e w2 ⟨rfl, d3⟩; have D3 : Hid (Below _ _ w2) := d3; clear d3)
     go_ret
     exact ⟨rng.ret_bool hx.out.symm, HC.out.trans (D3.out.mono HC.out.size)⟩
    | true =>
     have HX : Hid ((ks.take (j + 1)).all (canN N) = true) := HT.out true rfl
     clear HF HT
     go_wp2_with (go_at_call 46; refine C.mono ?_; rintro e w2 ⟨rfl, d3⟩; have D3 : Hid (Below _ _ w2) := d3; clear d3)
     go_roundw
     case rel => exact ⟨j + 1, by omega, by go_num, HX, HBK2.out.on D3.out, HC.out.trans (D3.out.mono HC.out.size)⟩
     case measure => simp [intOf]; omega
   ·have hA : ks.all (canN N) = true := by have := HA.out; rw [List.take_of_length_le (by have := HL.out; omega)] at this; exact this
    have hlt' : ¬ (j : Int) < (nk : Int) := by omega
    have HR2 : Hid (RR = (leafK k || (k == 3 && classK m nk))) := by show _ = _; rw [HRR.out, hA, Bool.true_and]
    clear HI HK HA hA HRR
    have x0 := HBK.out.cell 0 (u := .int .i64 k) rfl
    have x1 := HBK.out.cell 1 (u := .int .i64 m) rfl
    have x2 := HBK.out.cell 2 (u := .int .i64 a) rfl
    have x3 := HBK.out.cell 3 (u := .int .i64 b) rfl
    have x4 := HBK.out.cell 4 (u := .bool g) rfl
    have x5 := HBK.out.cell 5 (u := .string n) rfl
    have x6 := HBK.out.cell 6 (u := .slice sa sl sc) rfl
    have x7 := HBK.out.cell 7 (u := .slice ao nk cap) rfl
    by_cases c : k = 1 ∨ k = 4 ∨ k = 5 ∨ k = 2
    ·rcases c with rfl | rfl | rfl | rfl <;> (go_wp2; go_ret; exact ⟨rng.ret_bool (HR2.out.trans rfl).symm, HW.out⟩)
    have f1 : (k == 1) = false := by rw [beq_eq_false_iff_ne]; omega
    have f4 : (k == 4) = false := by rw [beq_eq_false_iff_ne]; omega
    have f5 : (k == 5) = false := by rw [beq_eq_false_iff_ne]; omega
    have f2 : (k == 2) = false := by rw [beq_eq_false_iff_ne]; omega
    have fL : leafK k = false := by unfold leafK; rw [f1, f4, f5, f2]; rfl
    by_cases c3 : k = 3
    ·subst c3
     have C := canClass_any 3 m a b g n sa sl sc ao nk cap wr
     have HR3 : Hid (RR = classK m nk) := by show _ = _; rw [HR2.out, fL]; rfl
     clear HR2 fL
     generalize classK m nk = z at *
     go_wp2_with fail
     refine C.mono ?_
     rintro e w2 ⟨rfl, b2⟩
     clear C
     go_wp2
     go_ret
     exact ⟨rng.ret_bool HR3.out.symm, HW.out.trans (b2.mono HW.out.size)⟩
    ·have f3 : (k == 3) = false := by rw [beq_eq_false_iff_ne]; exact c3
     have HR3 : Hid (RR = false) := by show _ = _; rw [HR2.out, fL, f3]; rfl
     clear HR2 fL
     go_wp2
     go_ret
     exact ⟨rng.ret_bool HR3.out.symm, HW.out⟩
end Go.Proofs.YtinlolmjafjhnaaGreatDoor.cls
end
