/- Texts that the proof leans on, one behind the other. -/
import Derived.Test.YtinlolmjafjhnaaGreatDoorBdPrp6
import Derived.ScopeJumps
import Derived.WalkMore

section
/- What code points are made of, over plain lists. -/
set_option linter.unusedVariables false
set_option linter.unusedSimpArgs false
namespace Go.Proofs.YtinlolmjafjhnaaGreatDoor.dcp
open Go.RowKit Go.Maps lin prp

/-- A syllable's parts. -/
def sylL (r : Int) : List Int := if (r - 44032) % 28 = 0 then [4352 + (r - 44032) / 588, 4449 + (r - 44032) % 588 / 28] else [4352 + (r - 44032) / 588, 4449 + (r - 44032) % 588 / 28, 4519 + (r - 44032) % 28]
/-- What a code point is made of at first sight. -/
def dp (r : Int) : List Int := if 44032 ≤ r ∧ r ≤ 55203 then sylL r else partsF r
theorem dp_syl {r : Int} (h : 44032 ≤ r ∧ r ≤ 55203) : dp r = sylL r := by unfold dp; rw [if_pos h]
theorem dp_not {r : Int} (h : ¬ (44032 ≤ r ∧ r ≤ 55203)) : dp r = partsF r := by unfold dp; rw [if_neg h]
theorem dec_one : ∀ x ∈ decL, x.1 = x.2.1 := by decide +kernel
theorem parts_cases (r : Int) : partsF r = [] ∨ ∃ x ∈ decL, r = x.1 := by
 rw [partsF_first]
 cases h : firstR decL r with
 | none => exact .inl rfl
 | some x =>
  have hm : x ∈ decL := List.mem_of_find?_eq_some h
  have hi : inR x r = true := by have := List.find?_some h; simpa using this
  refine .inr ⟨x, hm, ?_⟩
  have := dec_one x hm
  unfold inR at hi
  simp at hi
  omega
theorem dec_far : ∀ x ∈ decL, ¬ (4352 ≤ x.1 ∧ x.1 ≤ 4607) ∧ ¬ (44032 ≤ x.1 ∧ x.1 ≤ 55203) := by decide +kernel
theorem dp_cases (r : Int) : dp r = [] ∨ (44032 ≤ r ∧ r ≤ 55203) ∨ ∃ x ∈ decL, r = x.1 := by
 by_cases h : 44032 ≤ r ∧ r ≤ 55203
 ·exact .inr (.inl h)
 ·rw [dp_not h]
  rcases parts_cases r with h | h
  ·exact .inl h
  ·exact .inr (.inr h)
theorem dp_jamo {r : Int} (h : 4352 ≤ r ∧ r ≤ 4607) : dp r = [] := by
 rcases dp_cases r with h1 | h1 | ⟨x, hx, h1⟩
 ·exact h1
 ·omega
 ·have := (dec_far x hx).1; omega
theorem syl_jamo {r : Int} (h : 44032 ≤ r ∧ r ≤ 55203) : ∀ p ∈ sylL r, 4352 ≤ p ∧ p ≤ 4607 := by
 intro p hp
 unfold sylL at hp
 split at hp
 ·simp at hp; omega
 ·simp at hp; omega
theorem dec_deep : ∀ x ∈ decL, ∀ p ∈ dp x.1, ∀ q ∈ dp p, dp q = [] := by decide +kernel
theorem dec_len : ∀ x ∈ decL, (dp x.1).length ≤ 3 := by decide +kernel
theorem deep (r : Int) : ∀ p ∈ dp r, ∀ q ∈ dp p, dp q = [] := by
 rcases dp_cases r with h | h | ⟨x, hx, rfl⟩
 ·intro p hp; rw [h] at hp; simp at hp
 ·intro p hp q hq
  rw [dp_syl h] at hp
  rw [dp_jamo (syl_jamo h p hp)] at hq
  simp at hq
 ·exact dec_deep x hx
theorem dp_len (r : Int) : (dp r).length ≤ 3 := by
 rcases dp_cases r with h | h | ⟨x, hx, rfl⟩
 ·rw [h]; simp
 ·rw [dp_syl h]; unfold sylL; split <;> simp
 ·exact dec_len x hx

/-- What a code point is made of in one step, if of anything. -/
def full1 (r : Int) : List Int := if dp r = [] then [r] else dp r
/-- What a code point is made of in the end. -/
def fullL (r : Int) : List Int := if dp r = [] then [r] else (dp r).flatMap full1
theorem full_leaf {r : Int} (h : dp r = []) : fullL r = [r] := by unfold fullL; rw [if_pos h]
theorem full1_full {p : Int} (h : ∀ q ∈ dp p, dp q = []) : fullL p = full1 p := by
 unfold fullL full1
 by_cases e : dp p = []
 ·rw [if_pos e, if_pos e]
 ·rw [if_neg e, if_neg e]
  have : ∀ l : List Int, (∀ q ∈ l, dp q = []) → l.flatMap (fun r => if dp r = [] then [r] else dp r) = l := by
   intro l
   induction l with
   | nil => intro _; rfl
   | cons x l ih => intro hl; rw [List.flatMap_cons, ih (fun q hq => hl q (by simp [hq])), if_pos (hl x (by simp))]; rfl
  exact this _ h
theorem flat_congr {f g : Int → List Int} : ∀ {l : List Int}, (∀ x ∈ l, f x = g x) → l.flatMap f = l.flatMap g
 | [], _ => rfl
 | x :: l, h => by rw [List.flatMap_cons, List.flatMap_cons, h x (by simp), flat_congr fun y hy => h y (by simp [hy])]
theorem full_node {r : Int} (h : dp r ≠ []) : fullL r = (dp r).flatMap fullL := by
 unfold fullL
 rw [if_neg h]
 exact flat_congr fun p hp => (full1_full (deep r p hp)).symm
/-- How many a code point's parts are, all in all, with itself. -/
def nd1 (r : Int) : Nat := 1 + (dp r).length
def nd (r : Int) : Nat := 1 + ((dp r).map nd1).sum
theorem map_congr {f g : Int → Nat} : ∀ {l : List Int}, (∀ x ∈ l, f x = g x) → l.map f = l.map g
 | [], _ => rfl
 | x :: l, h => by rw [List.map_cons, List.map_cons, h x (by simp), map_congr fun y hy => h y (by simp [hy])]
theorem nd_leafs : ∀ {l : List Int}, (∀ q ∈ l, dp q = []) → (l.map nd1).sum = l.length
 | [], _ => rfl
 | x :: l, h => by
  rw [List.map_cons, List.sum_cons, nd_leafs fun q hq => h q (by simp [hq]), List.length_cons]
  unfold nd1
  rw [h x (by simp)]
  simp
  omega
theorem nd_eq (r : Int) : nd r = 1 + ((dp r).map nd).sum := by
 have : (dp r).map nd = (dp r).map nd1 := map_congr fun p hp => by unfold nd; rw [nd_leafs (deep r p hp)]; rfl
 rw [this]
 rfl
theorem sum_le {f : Int → Nat} {n : Nat} : ∀ (l : List Int), (∀ x ∈ l, f x ≤ n) → (l.map f).sum ≤ l.length * n
 | [], _ => by simp
 | x :: l, h => by
  rw [List.map_cons, List.sum_cons, List.length_cons, Nat.add_mul, Nat.one_mul]
  have := sum_le l fun y hy => h y (by simp [hy])
  have := h x (by simp)
  omega
theorem nd_le (r : Int) : nd r ≤ 13 := by
 unfold nd
 have := sum_le (f := nd1) (n := 4) (dp r) (fun x _ => by unfold nd1; have := dp_len x; omega)
 have := dp_len r
 omega
theorem nd_pos (r : Int) : 1 ≤ nd r := by unfold nd; omega
theorem len_sum : ∀ (l : List Int), l.length ≤ (l.map nd).sum
 | [] => by simp
 | x :: l => by rw [List.map_cons, List.sum_cons, List.length_cons]; have := len_sum l; have := nd_pos x; omega

/-- Between two jumps: out has been told, st is to be taken apart. -/
def Stk (r : Int) (out st : List Int) : Prop := out ++ st.reverse.flatMap fullL = fullL r ∧ out.length + (st.map nd).sum ≤ 13
theorem stk_start (r : Int) : Stk r [] [r] := ⟨by simp, by simp; exact nd_le r⟩
theorem stk_leaf {r top : Int} {out st : List Int} (h : Stk r out (st ++ [top])) (hd : dp top = []) : Stk r (out ++ [top]) st ∧ (st.map nd).sum < ((st ++ [top]).map nd).sum := by
 obtain ⟨h1, h2⟩ := h
 rw [List.reverse_append, List.reverse_singleton, List.singleton_append, List.flatMap_cons, full_leaf hd] at h1
 rw [List.map_append, List.sum_append] at h2 ⊢
 have hp := nd_pos top
 simp only [List.map_cons, List.map_nil, List.sum_cons, List.sum_nil] at h2 ⊢
 exact ⟨⟨by rw [← h1]; simp, by rw [List.length_append]; simp; omega⟩, by omega⟩
theorem sum_rev (l : List Int) : (l.reverse.map nd).sum = (l.map nd).sum := by
 rw [List.map_reverse]
 exact List.Perm.sum_nat (List.reverse_perm _)
theorem stk_node {r top : Int} {out st : List Int} (h : Stk r out (st ++ [top])) (hd : dp top ≠ []) : Stk r out (st ++ (dp top).reverse) ∧ ((st ++ (dp top).reverse).map nd).sum < ((st ++ [top]).map nd).sum := by
 obtain ⟨h1, h2⟩ := h
 rw [List.reverse_append, List.reverse_singleton, List.singleton_append, List.flatMap_cons, full_node hd] at h1
 have hp := nd_eq top
 have hs := sum_rev (dp top)
 simp only [List.map_append, List.sum_append, List.map_cons, List.map_nil, List.sum_cons, List.sum_nil] at h2 ⊢
 refine ⟨⟨?_, by simp only [List.map_append, List.sum_append]; omega⟩, by omega⟩
 rw [← h1, List.reverse_append, List.reverse_reverse, List.flatMap_append]
theorem stk_end {r : Int} {out : List Int} (h : Stk r out []) : out = fullL r := by have := h.1; simpa using this
theorem stk_len {r : Int} {out st : List Int} (h : Stk r out st) : out.length ≤ 13 ∧ st.length ≤ 13 := by have := h.2; have := len_sum st; omega
end Go.Proofs.YtinlolmjafjhnaaGreatDoor.dcp
end

section
/- decomp.made, decomp.isSyllable, decomp.syllable, decomp.parts. -/
set_option linter.unusedVariables false
set_option linter.unusedSimpArgs false
namespace Go.Proofs.YtinlolmjafjhnaaGreatDoor.dcp
open Go.RowKit Go.Maps lin prp

/-- A slice of numbers that lies from block base on. -/
def IVn (w : World) (base : Nat) (v : Value) (xs : List Int) : Prop := ∃ a c, v = .slice a xs.length c ∧ (0 < xs.length → ∃ b o, a = some ⟨b, o, none⟩ ∧ base ≤ b ∧ ∀ j, j < xs.length → w.cell? ⟨b, o + j, none⟩ = some (.int .i64 (xs.getD j 0)))
theorem ivn_own {w : World} {base : Nat} {v : Value} {xs : List Int} (h : IOwn w base v xs) : IVn w base v xs := by
 obtain ⟨a, c, rfl, hv⟩ := h.iv
 refine ⟨a, c, rfl, fun h0 => ?_⟩
 obtain ⟨b, o, rfl, hc⟩ := hv h0
 refine ⟨b, o, rfl, ?_, hc⟩
 rcases h.2 with ⟨hn, _⟩ | ⟨g, cap, cur, hv, hg, _⟩
 ·cases hn
 ·cases hv; exact hg
theorem dp_ok (r : Int) : ∀ p ∈ dp r, okI p := by
 have dec : ∀ x ∈ decL, ∀ p ∈ dp x.1, 0 ≤ p ∧ p ≤ 1114111 := by decide +kernel
 intro p hp
 unfold okI
 rcases dp_cases r with h | h | ⟨x, hx, rfl⟩
 ·rw [h] at hp; simp at hp
 ·rw [dp_syl h] at hp; have := syl_jamo h p hp; omega
 ·have := dec x hx p hp; omega
theorem cat_zero : sF [67, 110] catL 0 = [67, 99] := by decide +kernel
set_option maxRecDepth 1000000 in
theorem made_t (t : Nat) (w : World) (h : Tabs w t) : Calls Tryz.prog 132 #[.pointer (some ⟨t, 0, none⟩)] w fun e w' => e = .returned (.bool true) ∧ Below w.heap.size w w' := by
 have C := category_t t 0 w h
 rw [cat_zero] at C
 have hq : (BA [67, 99]).toList = [67, 99] := by rw [Lib.toList_data, BA_data]
 clear h
 go_enter Tryz.func132, Tryz.ntmps132
 go_wp2_with fail
 refine C.mono ?_
 rintro e w1 ⟨rfl, hb⟩
 clear C
 go_wp2
 go_ret
 exact ⟨rfl, hb⟩
set_option maxRecDepth 1000000 in
theorem made_no (v : Value) (w : World) (h : Unmade w v) : Calls Tryz.prog 132 #[v] w fun e w' => e = .returned (.bool false) ∧ w' = w := by
 have C := category_no v 0 w h
 clear h
 go_enter Tryz.func132, Tryz.ntmps132
 go_wp2_with fail
 refine C.mono ?_
 rintro e w1 ⟨rfl, hw⟩
 rw [hw]
 clear C
 go_wp2
 go_ret
 exact ⟨rfl, rfl⟩
set_option maxRecDepth 1000000 in
theorem isSyl_any (r : Int) (w : World) : Calls Tryz.prog 130 #[.int .i64 r] w fun e w' => e = .returned (.bool (decide (44032 ≤ r ∧ r ≤ 55203))) ∧ w' = w := by
 by_cases h1 : 44032 ≤ r
 ·by_cases h2 : r ≤ 55203
  ·have e1 : decide (44032 ≤ r ∧ r ≤ 55203) = true := decide_eq_true ⟨h1, h2⟩
   rw [e1]
   go_enter Tryz.func130, Tryz.ntmps130
   go_wp2
   go_ret
   exact ⟨rfl, rfl⟩
  ·have e1 : decide (44032 ≤ r ∧ r ≤ 55203) = false := decide_eq_false (by omega)
   rw [e1]
   go_enter Tryz.func130, Tryz.ntmps130
   go_wp2
   go_ret
   exact ⟨rfl, rfl⟩
 ·have e1 : decide (44032 ≤ r ∧ r ≤ 55203) = false := decide_eq_false (by omega)
  rw [e1]
  go_enter Tryz.func130, Tryz.ntmps130
  go_wp2
  go_ret
  exact ⟨rfl, rfl⟩
theorem idx0 (w : World) : (Instr.index 275 (.agg #[.int .i64 588, .int .i64 28, .int .i64 1]) (.int .i64 0)).run Tryz.prog w = .ok (.int .i64 588) w := by kernel_rfl
theorem idx1 (w : World) : (Instr.index 275 (.agg #[.int .i64 588, .int .i64 28, .int .i64 1]) (.int .i64 1)).run Tryz.prog w = .ok (.int .i64 28) w := by kernel_rfl
theorem idx2 (w : World) : (Instr.index 275 (.agg #[.int .i64 588, .int .i64 28, .int .i64 1]) (.int .i64 2)).run Tryz.prog w = .ok (.int .i64 1) w := by kernel_rfl
set_option maxHeartbeats 2000000 in
set_option maxRecDepth 1000000 in
theorem syl_any (r : Int) (w : World) (h : 44032 ≤ r ∧ r ≤ 55203) : Calls Tryz.prog 173 #[.int .i64 r] w fun e w' => ∃ v, e = .returned v ∧ IVn w' w.heap.size v (sylL r) ∧ Below w.heap.size w w' := by
 obtain ⟨n, hn⟩ : ∃ n, r - 44032 = n := ⟨_, rfl⟩
 have h0 : 0 ≤ n := by omega
 have h1 : n < 11172 := by omega
 obtain ⟨a, ha⟩ : ∃ a, n / 588 = a := ⟨_, rfl⟩
 obtain ⟨b, hb⟩ : ∃ b, n % 588 = b := ⟨_, rfl⟩
 obtain ⟨c, hc⟩ : ∃ c, b / 28 = c := ⟨_, rfl⟩
 obtain ⟨d, hd⟩ : ∃ d, b % 28 = d := ⟨_, rfl⟩
 have hd2 : n % 28 = d := by omega
 have hs : sylL r = if d = 0 then [4352 + a, 4449 + c] else [4352 + a, 4449 + c, 4519 + d] := by unfold sylL; rw [hn, ha, hb, hc, hd2]
 obtain ⟨X, hX⟩ : ∃ X, sylL r = X := ⟨_, rfl⟩
 have HX : Hid (X = if d = 0 then [4352 + a, 4449 + c] else [4352 + a, 4449 + c, 4519 + d]) := hX.symm.trans hs
 rw [hX]
 have a0 : 0 ≤ a := by omega
 have a1 : a < 20 := by omega
 have b0 : 0 ≤ b := by omega
 have b1 : b < 588 := by omega
 have c0 : 0 ≤ c := by omega
 have c1 : c < 21 := by omega
 have d0 : 0 ≤ d := by omega
 have d1 : d < 28 := by omega
 have q1 : Int.tdiv n 588 = a := by rw [Int.tdiv_eq_ediv_of_nonneg h0, ha]
 have q2 : Int.tmod n 588 = b := by rw [Int.tmod_eq_emod_of_nonneg h0, hb]
 have q3 : Int.tdiv b 28 = c := by rw [Int.tdiv_eq_ediv_of_nonneg b0, hc]
 have q4 : Int.tmod b 28 = d := by rw [Int.tmod_eq_emod_of_nonneg b0, hd]
 have q5 : Int.tdiv d 1 = d := by simp
 have w0 : IntKind.i64.wrap n = n := by rw [IntKind.wrap_i64]; omega
 have w1 : IntKind.i64.wrap (4352 + a) = 4352 + a := by rw [IntKind.wrap_i64]; omega
 have w2 : IntKind.i64.wrap (4449 + c) = 4449 + c := by rw [IntKind.wrap_i64]; omega
 have w3 : IntKind.i64.wrap (4519 + d) = 4519 + d := by rw [IntKind.wrap_i64]; omega
 have x0 := idx0
 have x1 := idx1
 have x2 := idx2
 have mixed : Tryz.prog.follows .mixedOrders = true := by kernel_rfl
 clear hs hX h ha hb hc hd hd2
 go_enter Tryz.func173, Tryz.ntmps173
 go_wp2
 refine wp_loop_rounds 4 ?_
 rw [rounds_succ]
 go_wp2_with fail
 go_big_region_o
 go_wp2
 rw [rounds_succ]
 go_wp2_with fail
 go_big_region_o
 go_wp2
 rw [rounds_succ]
 go_wp2_with fail
 go_big_region_o
 go_wp2
 rw [rounds_succ]
 by_cases hz : d = 0
 ·have hq : ((4519 + d : Int) == 4519) = true := by simp [hz]
  have HZ : Hid (d = 0) := hz
  clear hz
  clear x0 x1 x2 q1 q2 q3 q4 q5
  go_wp2
  go_ret
  rw [HX.out, if_pos HZ.out]
  refine ⟨_, rfl, ⟨some ⟨w.heap.size, 0, none⟩, 3, rfl, fun _ => ⟨_, _, rfl, Nat.le_refl _, fun j hj => ?_⟩⟩, (((((Below.refl w.heap.size w).alloc (Nat.le_refl _) _).drew).drew).drew)⟩
  have hj' : j < 2 := hj
  rcases (show j = 0 ∨ j = 1 by omega) with rfl | rfl
  ·exact World.cell?_alloc_new (w := w) _ _ 0
  ·exact World.cell?_alloc_new (w := w) _ _ 1
 ·have hq : ((4519 + d : Int) == 4519) = false := beq_eq_false_iff_ne.2 (by omega)
  have HZ : Hid (¬ d = 0) := hz
  clear hz
  clear x0 x1 x2 q1 q2 q3 q4 q5
  go_wp2
  go_ret
  rw [HX.out, if_neg HZ.out]
  refine ⟨_, rfl, ⟨some ⟨w.heap.size, 0, none⟩, 3, rfl, fun _ => ⟨_, _, rfl, Nat.le_refl _, fun j hj => ?_⟩⟩, (((((Below.refl w.heap.size w).alloc (Nat.le_refl _) _).drew).drew).drew)⟩
  have hj' : j < 3 := hj
  rcases (show j = 0 ∨ j = 1 ∨ j = 2 by omega) with rfl | rfl | rfl
  ·exact World.cell?_alloc_new (w := w) _ _ 0
  ·exact World.cell?_alloc_new (w := w) _ _ 1
  ·exact World.cell?_alloc_new (w := w) _ _ 2
set_option maxRecDepth 1000000 in
theorem parts_any (t : Nat) (r : Int) (w : World) (h : Tabs w t) (hr : okI r) : Calls Tryz.prog 133 #[.pointer (some ⟨t, 0, none⟩), .int .i64 r] w fun e w' => ∃ v, e = .returned v ∧ IVn w' w.heap.size v (dp r) ∧ Below w.heap.size w w' := by
 have C := isSyl_any r w
 by_cases hs : 44032 ≤ r ∧ r ≤ 55203
 ·have D := syl_any r w hs
  rw [decide_eq_true hs] at C
  rw [dp_syl hs]
  clear h
  generalize sylL r = X at *
  go_enter Tryz.func133, Tryz.ntmps133
  go_wp2_with fail
  refine C.mono ?_
  rintro e w1 ⟨rfl, hw⟩
  rw [hw]
  clear C hw
  go_wp2_with fail
  refine D.mono ?_
  rintro e w2 ⟨v, rfl, hv, hb⟩
  clear D
  have H : Hid (IVn w2 w.heap.size v X ∧ Below w.heap.size w w2) := ⟨hv, hb⟩
  obtain ⟨va, vc, rfl, _⟩ := hv
  generalize X.length = xn at *
  go_wp2
  go_ret
  exact ⟨_, rfl, H.out⟩
 ·have D := parts_t t r w h hr
  rw [decide_eq_false hs] at C
  rw [dp_not hs]
  clear h
  generalize partsF r = X at *
  go_enter Tryz.func133, Tryz.ntmps133
  go_wp2_with fail
  refine C.mono ?_
  rintro e w1 ⟨rfl, hw⟩
  rw [hw]
  clear C hw
  go_wp2_with fail
  refine D.mono ?_
  rintro e w2 ⟨v, rfl, hv, hb⟩
  clear D
  have H : Hid (IVn w2 w.heap.size v X ∧ Below w.heap.size w w2) := ⟨ivn_own hv, hb⟩
  obtain ⟨va, vc, rfl, _⟩ := hv.iv
  clear hv
  generalize X.length = xn at *
  go_wp2
  go_ret
  exact ⟨_, rfl, H.out⟩
end Go.Proofs.YtinlolmjafjhnaaGreatDoor.dcp
end

section
/- slices.Backward over numbers: its closure gives them with their places, from the last one on. -/
set_option linter.unusedVariables false
set_option linter.unusedSimpArgs false
namespace Go.Proofs.YtinlolmjafjhnaaGreatDoor.dcp
open Go.RowKit Go.Shelf lin
attribute [local go_sem] Oper.semAt_some

abbrev Elt := Nat × Value
def encB (x : Elt) : Array Value := #[.int .i64 (x.1 : Int), x.2]
/-- Elements with their places, the last one first. -/
def backs (vs : List Value) : List Elt := (vs.zipIdx.map fun p => (p.2, p.1)).reverse
theorem backs_snoc (vs : List Value) (v : Value) : backs (vs ++ [v]) = (vs.length, v) :: backs vs := by
 unfold backs
 rw [List.zipIdx_append]
 simp
theorem backs_take (vs : List Value) (k : Nat) (h : k < vs.length) : backs (vs.take (k + 1)) = (k, vs[k]) :: backs (vs.take k) := by
 rw [List.take_add_one, List.getElem?_eq_getElem h]
 show backs (vs.take k ++ [vs[k]]) = _
 rw [backs_snoc, List.length_take]
 congr 2
 omega

theorem backs_len (vs : List Value) : (backs vs).length = vs.length := by unfold backs; simp
theorem backs_at (vs : List Value) {pre rest : List Elt} {x : Elt} (h : backs vs = pre ++ x :: rest) : x.1 + pre.length + 1 = vs.length ∧ vs[x.1]? = some x.2 := by
 have h1 : (backs vs)[pre.length]? = some x := by rw [h]; simp
 have hl : pre.length < vs.length := by
  have := congrArg List.length h
  rw [backs_len, List.length_append, List.length_cons] at this
  omega
 unfold backs at h1
 rw [List.getElem?_reverse (by simpa using hl)] at h1
 simp only [List.length_map, List.length_zipIdx, List.getElem?_map, List.getElem?_zipIdx] at h1
 have hj : vs.length - 1 - pre.length < vs.length := by omega
 rw [List.getElem?_eq_getElem hj] at h1
 simp at h1
 subst h1
 exact ⟨by simp; omega, by simp [List.getElem?_eq_getElem hj]⟩

/-- In block c lies the slice of values vs, whose cells lie in block g. -/
structure Rev (W : World) (c g off cap : Nat) (vs : List Value) : Prop where
 box : Boxed W c 37 (.slice (some ⟨g, off, none⟩) vs.length cap)
 cell : ∀ i (h : i < vs.length), W.cell? ⟨g, off + i, none⟩ = some vs[i]

theorem cell_keep {lo hi : Nat} {A B : World} (h : Keep lo hi A B) {g o : Nat} (h1 : lo ≤ g) (h2 : g < hi) : B.cell? ⟨g, o, none⟩ = A.cell? ⟨g, o, none⟩ := by
 unfold World.cell?
 rw [h g h1 h2]

theorem Backward_any (a : Option Addr) (n c : Nat) (w : World) :
  Calls Tryz.prog 134 #[.slice a n c] w fun e w' => e = .returned (.func (.func 174) #[] #[.pointer (some ⟨w.heap.size, 0, none⟩)]) ∧ w' = w.alloc (.cells #[.slice a n c] 37) := by
 go_enter Tryz.func134, Tryz.ntmps134
 go_wp2
 go_ret
 exact ⟨rfl, rfl⟩

set_option maxHeartbeats 1000000 in
theorem back_gives (n c g off cap lo : Nat) (vs : List Value) (w : World) (hl : vs.length ≤ 1099511627776) (hr : Rev w c g off cap vs) (h1 : lo ≤ c) (h2 : lo ≤ g) (hsl : ∀ v ∈ vs, ∃ q, v = .int .i64 q) :
  Gives n Tryz.prog 174 #[.pointer (some ⟨c, 0, none⟩)] encB (backs vs) c lo w.heap.size w := by
 intro l J Jx W hW hJ hY h0
 have hc := hr.box.lt
 have hrW : Rev W c g off cap vs := ⟨(hW.block c hc).trans hr.box, fun i h => (hW.cell (p := ⟨g, off + i, none⟩) (World.block_lt_of_cell? w _ (hr.cell i h))).trans (hr.cell i h)⟩
 refine callsIn_of_wp Tryz.func174 rfl trivial ?_ rfl
 simp only [Tryz.ntmps174, List.size_toArray, List.length_cons, List.length_nil, Nat.reduceAdd, Nat.reduceSub, Array.replicate_succ, Array.replicate_zero, List.push_toArray, List.append_toArray, List.nil_append, List.cons_append]
 have c1 := hrW.box.cell
 have wl : IntKind.i64.wrap ((vs.length : Int) - 1) = (vs.length : Int) - 1 := by rw [IntKind.wrap_i64]; omega
 gi_wp2
 clear c1
 gi_loopg [3] vs.length (fun k v wr => ∃ (pre : List Elt), k ≤ vs.length ∧ v = .int .i64 ((k : Int) - 1) ∧ Hid (pre ++ backs (vs.take k) = backs vs) ∧ Rev wr c g off cap vs ∧ J pre wr)
 case atStart => exact ⟨[], Nat.le_refl _, rfl, by rw [Hid, List.take_of_length_le (Nat.le_refl _)]; rfl, hrW, h0⟩
 case round =>
  obtain ⟨pre, hk, rfl, HX, hcr, hj⟩ := hrel
  cases gk with
  | zero =>
   have HE : pre = backs vs := by have := HX.out; simpa [backs] using this
   subst HE
   gi_wp2
   go_end0
   exact ⟨⟨_, rfl⟩, .inl hj⟩
  | succ k =>
   have hkl : k < vs.length := by omega
   have e0 : ((k + 1 : Nat) : Int) - 1 = (k : Int) := by omega
   have hkl' : (k : Int) < (vs.length : Int) := by omega
   have HX2 : backs vs = pre ++ (k, vs[k]) :: backs (vs.take k) := by rw [← HX.out, backs_take vs k hkl]
   obtain ⟨fn, tmps, assign, body, hy, hR⟩ := hY pre (k, vs[k]) _ wr HX2 hj
   have HX3 : Hid ((pre ++ [(k, vs[k])]) ++ backs (vs.take k) = backs vs) := by rw [Hid, HX2]; simp
   clear HX HX2
   have c1 := hcr.box.cell
   have c2 := hcr.cell k hkl
   obtain ⟨vq, hv⟩ := hsl vs[k] (List.getElem_mem hkl)
   have wk : IntKind.i64.wrap ((k : Int) - 1) = (k : Int) - 1 := by rw [IntKind.wrap_i64]; omega
   rw [e0]
   simp only [encB] at hy
   generalize vs[k] = x at *
   subst hv
   gi_wp2
   refine ⟨wide_depth _, hR.mono ?_⟩
   rintro e W3 (⟨rfl, hJ3, hk3⟩ | ⟨rfl, hJx3⟩)
   ·have hc3 : Rev W3 c g off cap vs := ⟨(hk3 c h1 hc).trans hcr.box, fun i h => (cell_keep hk3 h2 (World.block_lt_of_cell? w _ (hr.cell i h))).trans (hcr.cell i h)⟩
    gi_wp2
    gi_roundg k
    case measure => omega
    case rel => exact ⟨_, by omega, rfl, HX3, hc3, hJ3⟩
   ·gi_wp2
    refine bodyPost_ret (results_none rfl _ _ _) rfl ?_
    exact ⟨⟨_, rfl⟩, .inr ⟨_, hJx3⟩⟩
end Go.Proofs.YtinlolmjafjhnaaGreatDoor.dcp
end

section
/- decomp.Full: what a code point is made of in the end. -/
set_option linter.unusedVariables false
set_option linter.unusedSimpArgs false
namespace Go.Proofs.YtinlolmjafjhnaaGreatDoor.dcp
open Go.RowKit Go.Maps Go.Shelf lin prp

/-- The mark that a range over a function leaves. -/
def mk (b : Nat) : Deferred := { target := .collected b, args := #[] }
theorem leave_marks {n : Nat} {fn : Func} {tmps : Array Value} {R : Ending → World → Prop} : ∀ (bs : List Nat) (w : World), bs.Nodup → (∀ b ∈ bs, w.heap[b]? = some (.deferred (some []))) → (∀ w', Turns (fun k => k ∈ bs) w w' → LeavesInM Fence.wide n Tryz.prog fn tmps R [] .returning w') → LeavesInM Fence.wide n Tryz.prog fn tmps R (bs.map mk) .returning w
 | [], w, _, _, h => h w (Turns.refl _ _)
 | b :: bs, w, hn, hb, h => by
  have hn' := List.nodup_cons.1 hn
  have tp : Turns (fun k => k ∈ b :: bs) w (w.putObj b (.deferred none)) := Turns.put (D := fun k => k ∈ b :: bs) (Turns.refl _ w) b _ (by simp)
  refine ⟨by simp, .inl ⟨b, _, rfl, run_takeDeferred (hb b (by simp)), leave_marks bs _ hn'.2 (fun c hc => ?_) (fun w' t => h w' (tp.trans (t.mono fun k hk => by simp [hk])))⟩⟩
  have hne : c ≠ b := fun e => hn'.1 (e ▸ hc)
  rw [World.putObj_heap_other hne]
  exact hb c (by simp [hc])
theorem exists_min {p : Nat → Prop} (h : ∃ g, p g) : ∃ m, p m ∧ ∀ g, p g → m ≤ g := by
 obtain ⟨g, hg⟩ := h
 induction g using Nat.strongRecOn with
 | _ g ih =>
  by_cases h : ∃ k, k < g ∧ p k
  ·obtain ⟨k, h1, h2⟩ := h; exact ih k h1 h2
  ·exact ⟨g, hg, fun k hk => by rcases Nat.lt_or_ge k g with c | c; exact absurd ⟨k, c, hk⟩ h; exact c⟩
open Classical in
/-- A scope in which the run jumps back to one label; what lowers is a number that the relation names. -/
theorem scope_ghost {P : Program} {a : Act} {w : World} {Q : Exit → Act → World → Prop} {c rest : Code} (l : Nat) (J : Nat → Act → World → Prop) (hf : findLabel c l = some rest)
  (first : c.wp P (Exit.jump l (fun a w => ∃ g, J g a w) Q) a w)
  (pass : ∀ g a w, J g a w → rest.wp P (Exit.jump l (fun a' w' => ∃ g', g' < g ∧ J g' a' w') Q) a w) : (Code.scope c).wp P Q a w := by
 let μ : Act → World → Nat := fun a w => if h : ∃ g, J g a w then Classical.choose (exists_min h) else 0
 refine wp_scope_jumps l (fun a w => ∃ g, J g a w) μ hf first (fun a w h => ?_)
 have hm := Classical.choose_spec (exists_min h)
 have e : μ a w = Classical.choose (exists_min h) := dif_pos h
 refine wp_mono (pass _ a w hm.1) (fun e' a' w' hq => ?_)
 cases e' with
 | goto l' =>
  obtain ⟨h1, g', h2, h3⟩ := hq
  refine ⟨h1, ⟨g', h3⟩, ?_⟩
  have hx : ∃ g, J g a' w' := ⟨g', h3⟩
  have hm' := Classical.choose_spec (exists_min hx)
  have e' : μ a' w' = Classical.choose (exists_min hx) := dif_pos hx
  rw [e, e']
  exact Nat.lt_of_le_of_lt (hm'.2 g' h3) h2
 | normal => exact hq
 | exit id => exact hq
 | ret => exact hq
 | panic ch => exact hq
 | outgrown => exact hq

theorem scope_label {P : Program} {a : Act} {w : World} {Q : Exit → Act → World → Prop} {c rest : Code} (l : Nat) (J : Nat → Act → World → Prop) (hf : findLabel c l = some (Code.seq .skip rest))
  (pass : ∀ g a w, J g a w → rest.wp P (Exit.jump l (fun a' w' => ∃ g', g' < g ∧ J g' a' w') Q) a w)
  (first : (∀ g a w, J g a w → rest.wp P (Exit.jump l (fun a w => ∃ g, J g a w) Q) a w) → c.wp P (Exit.jump l (fun a w => ∃ g, J g a w) Q) a w) : (Code.scope c).wp P Q a w :=
 scope_ghost l J hf (first fun g a w h => wp_mono (pass g a w h) (fun e a' w' hq => by
  cases e with
  | goto l' => obtain ⟨h1, g', _, h3⟩ := hq; exact ⟨h1, g', h3⟩
  | normal => exact hq
  | exit id => exact hq
  | ret => exact hq
  | panic ch => exact hq
  | outgrown => exact hq)) (fun g a w h => wp_seq (wp_skip (pass g a w h)))
theorem iown_pop {w : World} {base g cap n : Nat} {xs : List Int} {x : Int} (h : IOwn w base (.slice (some ⟨g, 0, none⟩) (n + 1) cap) (xs ++ [x])) (hn : xs.length = n) : IOwn w base (.slice (some ⟨g, 0, none⟩) n cap) xs := by
 rcases h.2 with ⟨h0, _⟩ | ⟨g', cap', cur, hv, hg, hgg, hc, hm, hs, ht⟩
 ·cases h0
 rw [show (xs ++ [x]).length = n + 1 by simp; omega] at hv
 cases hv
 refine ⟨by simp, .inr ⟨g, cap, cur, by rw [hn], hg, hgg, by simp at hc; omega, hm, hs, ?_⟩⟩
 have : (cur.toList.take ((xs ++ [x]).length * 1)).take (xs.length * 1) = ((xs ++ [x]).map (Value.int .i64)).take (xs.length * 1) := by rw [ht]
 rw [List.take_take, Nat.min_eq_left (by simp)] at this
 rw [this, List.map_append, Nat.mul_one]
 exact List.take_left' (by simp)
theorem iown_top {w : World} {base g cap n : Nat} {xs : List Int} {x : Int} (h : IOwn w base (.slice (some ⟨g, 0, none⟩) (n + 1) cap) (xs ++ [x])) (hn : xs.length = n) : w.cell? ⟨g, n, none⟩ = some (.int .i64 x) := by
 obtain ⟨a, c, e, hv⟩ := h.iv
 obtain ⟨b, o, rfl, hc⟩ := hv (by simp)
 have := hc n (by simp; omega)
 rw [show (xs ++ [x]).length = n + 1 by simp; omega] at e
 cases e
 rw [Nat.zero_add] at this
 rw [this, List.getD_eq_getElem?_getD, List.getElem?_append_right (by omega), hn]
 simp
/-- Between two jumps. -/
structure FS (w0 : World) (B : Nat) (r : Int) (g : Nat) (vo sv : Value) (out st : List Int) (bs : List Nat) (w : World) : Prop where
 box : Boxed w B 37 sv
 own : IOwn w w0.heap.size vo out
 stk : IOwn w w0.heap.size sv st
 two : ∀ k, vo.ownBlock = some k → sv.ownBlock ≠ some k
 low : Below w0.heap.size w0 w
 old : w0.heap.size ≤ B
 pur : Stk r out st
 msr : (st.map nd).sum = g
 oks : ∀ x ∈ st, okI x
 nod : bs.Nodup
 mks : ∀ b ∈ bs, w0.heap.size ≤ b ∧ w.heap[b]? = some (.deferred (some []))
def FJ (w0 : World) (t : Nat) (r : Int) (g : Nat) (a : Act) (w : World) : Prop := ∃ B u7 u8 u9 u10 u11 u12 u13 u14 u15 u16 u17 u18 u19 u20 u21 u22 u23 u24 u25 u26 u27 u28 u29 u30 u31 u32 u33 u34 u35 u36 u37 u38 u39 u40 u41 u42 u43 u44 u45 u46 u47 u48 vo sv out st bs, a = { tmps := #[.pointer (some ⟨t, 0, none⟩), .int .i64 r, undef, undef, .slice none 0 0, vo, .pointer (some ⟨B, 0, none⟩), u7, u8, u9, u10, u11, u12, u13, u14, u15, u16, u17, u18, u19, u20, u21, u22, u23, u24, u25, u26, u27, u28, u29, u30, u31, u32, u33, u34, u35, u36, u37, u38, u39, u40, u41, u42, u43, u44, u45, u46, u47, u48], defers := bs.map mk } ∧ FS w0 B r g vo sv out st bs w
/-- A row of numbers and a mark don't lie in one block. -/
theorem row_mark {w : World} {base b : Nat} {v : Value} {xs : List Int} (h : IOwn w base v xs) (hb : w.heap[b]? = some (.deferred (some []))) : v.ownBlock ≠ some b := by
 rcases h.2 with ⟨rfl, _⟩ | ⟨g, cap, cur, rfl, hg, hgg, _⟩
 ·intro e; cases e
 ·intro e
  have : g = b := by simpa [Value.ownBlock] using e
  subst this
  rw [hgg] at hb
  cases hb
end Go.Proofs.YtinlolmjafjhnaaGreatDoor.dcp
end
