/- Texts that the proof leans on, one behind the other. -/
import Derived.Test.YtbdojobplhpnbaaGreatDoorBdPrp6
import Derived.Laws.Rows

section
/- Clusters, plainly: a break's number, the edges of a text. -/
set_option linter.unusedVariables false
set_option linter.unusedSimpArgs false
namespace Go.Proofs.YtbdojobplhpnbaaGreatDoor.clu
open Go.Proofs.YtbdojobplhpnbaaGreatDoor.prp (clF)

/-- A break's number, by its name. -/
def kS (s : List UInt8) : Int :=
  if s = [67, 82] then 1 else if s = [76, 70] then 2 else if s = [67, 111, 110, 116, 114, 111, 108] then 3 else if s = [76] then 4 else if s = [86] then 5
  else if s = [84] then 6 else if s = [76, 86] then 7 else if s = [76, 86, 84] then 8 else if s = [69, 120, 116, 101, 110, 100] then 9 else if s = [90, 87, 74] then 10
  else if s = [83, 112, 97, 99, 105, 110, 103, 77, 97, 114, 107] then 11 else if s = [80, 114, 101, 112, 101, 110, 100] then 12
  else if s = [80, 105, 99, 116, 111, 103, 114, 97, 112, 104, 105, 99] then 13 else if s = [70, 108, 97, 103] then 14 else 0
def nmK : List (List UInt8) := [[], [67, 82], [76, 70], [67, 111, 110, 116, 114, 111, 108], [76], [86], [84], [76, 86], [76, 86, 84], [69, 120, 116, 101, 110, 100], [90, 87, 74], [83, 112, 97, 99, 105, 110, 103, 77, 97, 114, 107], [80, 114, 101, 112, 101, 110, 100], [80, 105, 99, 116, 111, 103, 114, 97, 112, 104, 105, 99], [70, 108, 97, 103]]
/-- The break of a code point, as a number. -/
def kd (r : Int) : Int := kS (clF r)
theorem kS_range (s : List UInt8) : 0 ≤ kS s ∧ kS s ≤ 14 := by
  unfold kS
  repeat' split
  all_goals omega
theorem kS_cases (s : List UInt8) : (∃ k : Nat, 0 < k ∧ k ≤ 14 ∧ s = nmK.getD k [] ∧ kS s = k) ∨ kS s = 0 := by
  by_cases h1 : s = [67, 82]
  · exact .inl ⟨1, by decide, by decide, h1, by rw [h1]; decide⟩
  by_cases h2 : s = [76, 70]
  · exact .inl ⟨2, by decide, by decide, h2, by rw [h2]; decide⟩
  by_cases h3 : s = [67, 111, 110, 116, 114, 111, 108]
  · exact .inl ⟨3, by decide, by decide, h3, by rw [h3]; decide⟩
  by_cases h4 : s = [76]
  · exact .inl ⟨4, by decide, by decide, h4, by rw [h4]; decide⟩
  by_cases h5 : s = [86]
  · exact .inl ⟨5, by decide, by decide, h5, by rw [h5]; decide⟩
  by_cases h6 : s = [84]
  · exact .inl ⟨6, by decide, by decide, h6, by rw [h6]; decide⟩
  by_cases h7 : s = [76, 86]
  · exact .inl ⟨7, by decide, by decide, h7, by rw [h7]; decide⟩
  by_cases h8 : s = [76, 86, 84]
  · exact .inl ⟨8, by decide, by decide, h8, by rw [h8]; decide⟩
  by_cases h9 : s = [69, 120, 116, 101, 110, 100]
  · exact .inl ⟨9, by decide, by decide, h9, by rw [h9]; decide⟩
  by_cases h10 : s = [90, 87, 74]
  · exact .inl ⟨10, by decide, by decide, h10, by rw [h10]; decide⟩
  by_cases h11 : s = [83, 112, 97, 99, 105, 110, 103, 77, 97, 114, 107]
  · exact .inl ⟨11, by decide, by decide, h11, by rw [h11]; decide⟩
  by_cases h12 : s = [80, 114, 101, 112, 101, 110, 100]
  · exact .inl ⟨12, by decide, by decide, h12, by rw [h12]; decide⟩
  by_cases h13 : s = [80, 105, 99, 116, 111, 103, 114, 97, 112, 104, 105, 99]
  · exact .inl ⟨13, by decide, by decide, h13, by rw [h13]; decide⟩
  by_cases h14 : s = [70, 108, 97, 103]
  · exact .inl ⟨14, by decide, by decide, h14, by rw [h14]; decide⟩
  right
  unfold kS
  rw [if_neg h1, if_neg h2, if_neg h3, if_neg h4, if_neg h5, if_neg h6, if_neg h7, if_neg h8, if_neg h9, if_neg h10, if_neg h11, if_neg h12, if_neg h13, if_neg h14]
theorem kS_iff (s : List UInt8) (k : Nat) (h0 : 0 < k) (h1 : k ≤ 14) : kS s = k ↔ s = nmK.getD k [] := by
  constructor
  · intro h
    rcases kS_cases s with ⟨j, _, _, e, e2⟩ | e
    · have : j = k := by omega
      rw [← this]; exact e
    · omega
  · intro h
    subst h
    obtain rfl | rfl | rfl | rfl | rfl | rfl | rfl | rfl | rfl | rfl | rfl | rfl | rfl | rfl : k = 1 ∨ k = 2 ∨ k = 3 ∨ k = 4 ∨ k = 5 ∨ k = 6 ∨ k = 7 ∨ k = 8 ∨ k = 9 ∨ k = 10 ∨ k = 11 ∨ k = 12 ∨ k = 13 ∨ k = 14 := by omega
    all_goals decide
theorem kS_beq (s : List UInt8) (k : Nat) (h0 : 0 < k) (h1 : k ≤ 14) (c : List UInt8) (hc : nmK.getD k [] = c) : (s == c) = (kS s == (k : Int)) := by
  rw [Bool.eq_iff_iff, beq_iff_eq, beq_iff_eq, kS_iff s k h0 h1, hc]
def alone (k : Int) : Bool := k == 1 || k == 2 || k == 3
def trails (k : Int) : Bool := k == 9 || k == 10 || k == 11
def syl : List (Int × Int) := [(4, 4), (4, 5), (4, 7), (4, 8), (7, 5), (7, 6), (5, 5), (5, 6), (8, 6), (6, 6)]
def inSyl (a b : Int) : Bool := syl.any (fun s => s.1 == a && s.2 == b)
/-- Does what is read backward begin with any number of those that extend, and then with a picture? -/
def endsPic : List Int → Bool
  | [] => false
  | k :: l => if k = 9 then endsPic l else k == 13
/-- How many flags what is read backward begins with. -/
def flagsN : List Int → Nat
  | [] => 0
  | k :: l => if k = 14 then flagsN l + 1 else 0
/-- Backward from a place, as breaks. -/
def back (l : List Int) (n : Nat) : List Int := ((l.take n).map kd).reverse
theorem back_zero (l : List Int) : back l 0 = [] := rfl
theorem back_succ {l : List Int} {n : Nat} {x : Int} (h : l[n]? = some x) : back l (n + 1) = kd x :: back l n := by
  unfold back
  rw [List.take_add_one, h, List.map_append, List.reverse_append]
  rfl
/-- What the rules say of two breaks, and of what stands ahead. -/
def ruleB (a b : Int) (pic : Bool) (fl : Nat) : Bool :=
  if a = 1 ∧ b = 2 then false else if alone a || alone b then true else if inSyl a b || trails b || a == 12 then false
  else if a = 10 ∧ b = 13 then !pic else if a = 14 ∧ b = 14 then fl % 2 == 0 else true
def parted (l : List Int) (n : Nat) : Bool := ruleB (kd (l.getD (n - 1) 0)) (kd (l.getD n 0)) (endsPic (back l (n - 1))) (flagsN (back l n))
def edgeP (l : List Int) (i : Int) : Bool := if l.length = 0 ∨ i < 0 ∨ (l.length : Int) < i then false else if i = 0 ∨ i = l.length then true else parted l i.toNat
theorem edge_end {l : List Int} (h : 0 < l.length) : edgeP l l.length = true := by
  unfold edgeP
  rw [if_neg (by omega), if_pos (.inr rfl)]
theorem edge_zero {l : List Int} (h : 0 < l.length) : edgeP l 0 = true := by
  unfold edgeP
  rw [if_neg (by omega), if_pos (.inl rfl)]
/-- m is the first edge behind a place. -/
structure IsNext (l : List Int) (i m : Int) : Prop where
  lt : i < m
  le : m ≤ l.length
  edge : edgeP l m = true
  none : ∀ j, i < j → j < m → edgeP l j = false
theorem IsNext.eq {l : List Int} {i m n : Int} (h1 : IsNext l i m) (h2 : IsNext l i n) : m = n := by
  rcases Int.lt_trichotomy m n with h | h | h
  · have := h2.none m h1.lt h; rw [h1.edge] at this; cases this
  · exact h
  · have := h1.none n h2.lt h; rw [h2.edge] at this; cases this
end Go.Proofs.YtbdojobplhpnbaaGreatDoor.clu
end

section
/- cluster.made, kindOf, alone, trails, inSyllable. -/
set_option linter.unusedVariables false
set_option linter.unusedSimpArgs false
namespace Go.Proofs.YtbdojobplhpnbaaGreatDoor.clu
open Go.RowKit Go.Maps
open Go.Proofs.YtbdojobplhpnbaaGreatDoor.lin Go.Proofs.YtbdojobplhpnbaaGreatDoor.prp

theorem beqT (c : List UInt8) : ((BA c).toList == c) = true := by rw [Lib.toList_data, BA_data]; exact beq_self_eq_true _
theorem beqF {v c : List UInt8} (h : v ≠ c) : ((BA v).toList == c) = false := by rw [Lib.toList_data, BA_data, beq_eq_false_iff_ne]; exact h
theorem cat_zero : sF [67, 110] catL 0 = [67, 99] := by decide +kernel
set_option maxRecDepth 1000000 in
theorem cmade_t (t : Nat) (w : World) (h : Tabs w t) : Calls Tryz.prog 37 #[.pointer (some ⟨t, 0, none⟩)] w fun e w' => e = .returned (.bool true) ∧ Below w.heap.size w w' := by
  have C := category_t t 0 w h
  rw [cat_zero] at C
  have hq : (BA [67, 99]).toList = [67, 99] := by rw [Lib.toList_data, BA_data]
  clear h
  go_enter Tryz.func37, Tryz.ntmps37
  go_wp2_with fail
  refine C.mono ?_
  rintro e w1 ⟨rfl, hb⟩
  clear C
  go_wp2
  go_ret
  exact ⟨rfl, hb⟩
set_option maxRecDepth 1000000 in
theorem cmade_no (v : Value) (w : World) (h : Unmade w v) : Calls Tryz.prog 37 #[v] w fun e w' => e = .returned (.bool false) ∧ w' = w := by
  have C := category_no v 0 w h
  clear h
  go_enter Tryz.func37, Tryz.ntmps37
  go_wp2_with fail
  refine C.mono ?_
  rintro e w1 ⟨rfl, hw⟩
  rw [hw]
  clear C hw
  go_wp2
  go_ret
  exact ⟨rfl, rfl⟩
set_option maxHeartbeats 4000000 in
set_option maxRecDepth 1000000 in
theorem kind_t (t : Nat) (r : Int) (w : World) (h : Tabs w t) : Calls Tryz.prog 56 #[.pointer (some ⟨t, 0, none⟩), .int .i64 r] w fun e w' => e = .returned (.int .i64 (kd r)) ∧ Below w.heap.size w w' := by
  have C := cluster_t t r w h
  have hk : kd r = kS (clF r) := rfl
  rw [hk]
  clear h hk
  generalize clF r = s at *
  by_cases h0 : s = [67, 82]
  · have hK : kS s = 1 := by rw [h0]; decide
    rw [hK]
    have g0 : ((BA s).toList == [67, 82]) = true := by rw [h0]; exact beqT _
    clear hK h0
    generalize BA s = B at *
    go_enter Tryz.func56, Tryz.ntmps56
    go_wp2_with fail
    refine C.mono ?_
    rintro e w1 ⟨rfl, hb⟩
    clear C
    go_wp2
    try rw [Exit.noGoto_ret]
    go_ret
    exact ⟨rfl, hb⟩
  by_cases h1 : s = [76, 70]
  · have hK : kS s = 2 := by rw [h1]; decide
    rw [hK]
    have g0 := beqF h0
    have g1 : ((BA s).toList == [76, 70]) = true := by rw [h1]; exact beqT _
    clear hK h0 h1
    generalize BA s = B at *
    go_enter Tryz.func56, Tryz.ntmps56
    go_wp2_with fail
    refine C.mono ?_
    rintro e w1 ⟨rfl, hb⟩
    clear C
    go_wp2
    try rw [Exit.noGoto_ret]
    go_ret
    exact ⟨rfl, hb⟩
  by_cases h2 : s = [67, 111, 110, 116, 114, 111, 108]
  · have hK : kS s = 3 := by rw [h2]; decide
    rw [hK]
    have g0 := beqF h0
    have g1 := beqF h1
    have g2 : ((BA s).toList == [67, 111, 110, 116, 114, 111, 108]) = true := by rw [h2]; exact beqT _
    clear hK h0 h1 h2
    generalize BA s = B at *
    go_enter Tryz.func56, Tryz.ntmps56
    go_wp2_with fail
    refine C.mono ?_
    rintro e w1 ⟨rfl, hb⟩
    clear C
    go_wp2
    try rw [Exit.noGoto_ret]
    go_ret
    exact ⟨rfl, hb⟩
  by_cases h3 : s = [76]
  · have hK : kS s = 4 := by rw [h3]; decide
    rw [hK]
    have g0 := beqF h0
    have g1 := beqF h1
    have g2 := beqF h2
    have g3 : ((BA s).toList == [76]) = true := by rw [h3]; exact beqT _
    clear hK h0 h1 h2 h3
    generalize BA s = B at *
    go_enter Tryz.func56, Tryz.ntmps56
    go_wp2_with fail
    refine C.mono ?_
    rintro e w1 ⟨rfl, hb⟩
    clear C
    go_wp2
    try rw [Exit.noGoto_ret]
    go_ret
    exact ⟨rfl, hb⟩
  by_cases h4 : s = [86]
  · have hK : kS s = 5 := by rw [h4]; decide
    rw [hK]
    have g0 := beqF h0
    have g1 := beqF h1
    have g2 := beqF h2
    have g3 := beqF h3
    have g4 : ((BA s).toList == [86]) = true := by rw [h4]; exact beqT _
    clear hK h0 h1 h2 h3 h4
    generalize BA s = B at *
    go_enter Tryz.func56, Tryz.ntmps56
    go_wp2_with fail
    refine C.mono ?_
    rintro e w1 ⟨rfl, hb⟩
    clear C
    go_wp2
    try rw [Exit.noGoto_ret]
    go_ret
    exact ⟨rfl, hb⟩
  by_cases h5 : s = [84]
  · have hK : kS s = 6 := by rw [h5]; decide
    rw [hK]
    have g0 := beqF h0
    have g1 := beqF h1
    have g2 := beqF h2
    have g3 := beqF h3
    have g4 := beqF h4
    have g5 : ((BA s).toList == [84]) = true := by rw [h5]; exact beqT _
    clear hK h0 h1 h2 h3 h4 h5
    generalize BA s = B at *
    go_enter Tryz.func56, Tryz.ntmps56
    go_wp2_with fail
    refine C.mono ?_
    rintro e w1 ⟨rfl, hb⟩
    clear C
    go_wp2
    try rw [Exit.noGoto_ret]
    go_ret
    exact ⟨rfl, hb⟩
  by_cases h6 : s = [76, 86]
  · have hK : kS s = 7 := by rw [h6]; decide
    rw [hK]
    have g0 := beqF h0
    have g1 := beqF h1
    have g2 := beqF h2
    have g3 := beqF h3
    have g4 := beqF h4
    have g5 := beqF h5
    have g6 : ((BA s).toList == [76, 86]) = true := by rw [h6]; exact beqT _
    clear hK h0 h1 h2 h3 h4 h5 h6
    generalize BA s = B at *
    go_enter Tryz.func56, Tryz.ntmps56
    go_wp2_with fail
    refine C.mono ?_
    rintro e w1 ⟨rfl, hb⟩
    clear C
    go_wp2
    try rw [Exit.noGoto_ret]
    go_ret
    exact ⟨rfl, hb⟩
  by_cases h7 : s = [76, 86, 84]
  · have hK : kS s = 8 := by rw [h7]; decide
    rw [hK]
    have g0 := beqF h0
    have g1 := beqF h1
    have g2 := beqF h2
    have g3 := beqF h3
    have g4 := beqF h4
    have g5 := beqF h5
    have g6 := beqF h6
    have g7 : ((BA s).toList == [76, 86, 84]) = true := by rw [h7]; exact beqT _
    clear hK h0 h1 h2 h3 h4 h5 h6 h7
    generalize BA s = B at *
    go_enter Tryz.func56, Tryz.ntmps56
    go_wp2_with fail
    refine C.mono ?_
    rintro e w1 ⟨rfl, hb⟩
    clear C
    go_wp2
    try rw [Exit.noGoto_ret]
    go_ret
    exact ⟨rfl, hb⟩
  by_cases h8 : s = [69, 120, 116, 101, 110, 100]
  · have hK : kS s = 9 := by rw [h8]; decide
    rw [hK]
    have g0 := beqF h0
    have g1 := beqF h1
    have g2 := beqF h2
    have g3 := beqF h3
    have g4 := beqF h4
    have g5 := beqF h5
    have g6 := beqF h6
    have g7 := beqF h7
    have g8 : ((BA s).toList == [69, 120, 116, 101, 110, 100]) = true := by rw [h8]; exact beqT _
    clear hK h0 h1 h2 h3 h4 h5 h6 h7 h8
    generalize BA s = B at *
    go_enter Tryz.func56, Tryz.ntmps56
    go_wp2_with fail
    refine C.mono ?_
    rintro e w1 ⟨rfl, hb⟩
    clear C
    go_wp2
    try rw [Exit.noGoto_ret]
    go_ret
    exact ⟨rfl, hb⟩
  by_cases h9 : s = [90, 87, 74]
  · have hK : kS s = 10 := by rw [h9]; decide
    rw [hK]
    have g0 := beqF h0
    have g1 := beqF h1
    have g2 := beqF h2
    have g3 := beqF h3
    have g4 := beqF h4
    have g5 := beqF h5
    have g6 := beqF h6
    have g7 := beqF h7
    have g8 := beqF h8
    have g9 : ((BA s).toList == [90, 87, 74]) = true := by rw [h9]; exact beqT _
    clear hK h0 h1 h2 h3 h4 h5 h6 h7 h8 h9
    generalize BA s = B at *
    go_enter Tryz.func56, Tryz.ntmps56
    go_wp2_with fail
    refine C.mono ?_
    rintro e w1 ⟨rfl, hb⟩
    clear C
    go_wp2
    try rw [Exit.noGoto_ret]
    go_ret
    exact ⟨rfl, hb⟩
  by_cases h10 : s = [83, 112, 97, 99, 105, 110, 103, 77, 97, 114, 107]
  · have hK : kS s = 11 := by rw [h10]; decide
    rw [hK]
    have g0 := beqF h0
    have g1 := beqF h1
    have g2 := beqF h2
    have g3 := beqF h3
    have g4 := beqF h4
    have g5 := beqF h5
    have g6 := beqF h6
    have g7 := beqF h7
    have g8 := beqF h8
    have g9 := beqF h9
    have g10 : ((BA s).toList == [83, 112, 97, 99, 105, 110, 103, 77, 97, 114, 107]) = true := by rw [h10]; exact beqT _
    clear hK h0 h1 h2 h3 h4 h5 h6 h7 h8 h9 h10
    generalize BA s = B at *
    go_enter Tryz.func56, Tryz.ntmps56
    go_wp2_with fail
    refine C.mono ?_
    rintro e w1 ⟨rfl, hb⟩
    clear C
    go_wp2
    try rw [Exit.noGoto_ret]
    go_ret
    exact ⟨rfl, hb⟩
  by_cases h11 : s = [80, 114, 101, 112, 101, 110, 100]
  · have hK : kS s = 12 := by rw [h11]; decide
    rw [hK]
    have g0 := beqF h0
    have g1 := beqF h1
    have g2 := beqF h2
    have g3 := beqF h3
    have g4 := beqF h4
    have g5 := beqF h5
    have g6 := beqF h6
    have g7 := beqF h7
    have g8 := beqF h8
    have g9 := beqF h9
    have g10 := beqF h10
    have g11 : ((BA s).toList == [80, 114, 101, 112, 101, 110, 100]) = true := by rw [h11]; exact beqT _
    clear hK h0 h1 h2 h3 h4 h5 h6 h7 h8 h9 h10 h11
    generalize BA s = B at *
    go_enter Tryz.func56, Tryz.ntmps56
    go_wp2_with fail
    refine C.mono ?_
    rintro e w1 ⟨rfl, hb⟩
    clear C
    go_wp2
    try rw [Exit.noGoto_ret]
    go_ret
    exact ⟨rfl, hb⟩
  by_cases h12 : s = [80, 105, 99, 116, 111, 103, 114, 97, 112, 104, 105, 99]
  · have hK : kS s = 13 := by rw [h12]; decide
    rw [hK]
    have g0 := beqF h0
    have g1 := beqF h1
    have g2 := beqF h2
    have g3 := beqF h3
    have g4 := beqF h4
    have g5 := beqF h5
    have g6 := beqF h6
    have g7 := beqF h7
    have g8 := beqF h8
    have g9 := beqF h9
    have g10 := beqF h10
    have g11 := beqF h11
    have g12 : ((BA s).toList == [80, 105, 99, 116, 111, 103, 114, 97, 112, 104, 105, 99]) = true := by rw [h12]; exact beqT _
    clear hK h0 h1 h2 h3 h4 h5 h6 h7 h8 h9 h10 h11 h12
    generalize BA s = B at *
    go_enter Tryz.func56, Tryz.ntmps56
    go_wp2_with fail
    refine C.mono ?_
    rintro e w1 ⟨rfl, hb⟩
    clear C
    go_wp2
    try rw [Exit.noGoto_ret]
    go_ret
    exact ⟨rfl, hb⟩
  by_cases h13 : s = [70, 108, 97, 103]
  · have hK : kS s = 14 := by rw [h13]; decide
    rw [hK]
    have g0 := beqF h0
    have g1 := beqF h1
    have g2 := beqF h2
    have g3 := beqF h3
    have g4 := beqF h4
    have g5 := beqF h5
    have g6 := beqF h6
    have g7 := beqF h7
    have g8 := beqF h8
    have g9 := beqF h9
    have g10 := beqF h10
    have g11 := beqF h11
    have g12 := beqF h12
    have g13 : ((BA s).toList == [70, 108, 97, 103]) = true := by rw [h13]; exact beqT _
    clear hK h0 h1 h2 h3 h4 h5 h6 h7 h8 h9 h10 h11 h12 h13
    generalize BA s = B at *
    go_enter Tryz.func56, Tryz.ntmps56
    go_wp2_with fail
    refine C.mono ?_
    rintro e w1 ⟨rfl, hb⟩
    clear C
    go_wp2
    try rw [Exit.noGoto_ret]
    go_ret
    exact ⟨rfl, hb⟩
  have hK : kS s = 0 := by unfold kS; rw [if_neg h0, if_neg h1, if_neg h2, if_neg h3, if_neg h4, if_neg h5, if_neg h6, if_neg h7, if_neg h8, if_neg h9, if_neg h10, if_neg h11, if_neg h12, if_neg h13]
  rw [hK]
  have g0 := beqF h0
  have g1 := beqF h1
  have g2 := beqF h2
  have g3 := beqF h3
  have g4 := beqF h4
  have g5 := beqF h5
  have g6 := beqF h6
  have g7 := beqF h7
  have g8 := beqF h8
  have g9 := beqF h9
  have g10 := beqF h10
  have g11 := beqF h11
  have g12 := beqF h12
  have g13 := beqF h13
  clear hK h0 h1 h2 h3 h4 h5 h6 h7 h8 h9 h10 h11 h12 h13
  generalize BA s = B at *
  go_enter Tryz.func56, Tryz.ntmps56
  go_wp2_with fail
  refine C.mono ?_
  rintro e w1 ⟨rfl, hb⟩
  clear C
  go_wp2
  try rw [Exit.noGoto_ret]
  go_ret
  exact ⟨rfl, hb⟩
set_option maxRecDepth 1000000 in
theorem alone_any (k : Int) (w : World) : Calls Tryz.prog 57 #[.int .i64 k] w fun e w' => e = .returned (.bool (alone k)) ∧ w' = w := by
  unfold alone
  cases h1 : (k == 1) <;> cases h2 : (k == 2) <;> cases h3 : (k == 3) <;> (go_enter Tryz.func57, Tryz.ntmps57; go_wp2; go_ret; exact ⟨rfl, rfl⟩)
set_option maxRecDepth 1000000 in
theorem trails_any (k : Int) (w : World) : Calls Tryz.prog 59 #[.int .i64 k] w fun e w' => e = .returned (.bool (trails k)) ∧ w' = w := by
  unfold trails
  cases h1 : (k == 9) <;> cases h2 : (k == 10) <;> cases h3 : (k == 11) <;> (go_enter Tryz.func59, Tryz.ntmps59; go_wp2; go_ret; exact ⟨rfl, rfl⟩)
/-- The cells of the table of syllables. -/
def sylC : List Value := [.int .i64 4, .int .i64 4, .int .i64 4, .int .i64 5, .int .i64 4, .int .i64 7, .int .i64 4, .int .i64 8, .int .i64 7, .int .i64 5, .int .i64 7, .int .i64 6, .int .i64 5, .int .i64 5, .int .i64 5, .int .i64 6, .int .i64 8, .int .i64 6, .int .i64 6, .int .i64 6]
def Syl (w : World) : Prop := ∀ (j : Nat) (u : Value), sylC[j]? = some u → w.cell? ⟨0, j, none⟩ = some u
theorem Syl.below {w w' : World} (h : Syl w) (hb : Below w.heap.size w w') : Syl w' := fun j u hj => cell_below hb (h j u hj)
/-- A load of a variable whose run is known. -/
theorem wpList_load_g {ops : Array Oper} {rest : List Oper} {o : Oper} {a : Act} {Q : Exit → Act → World → Prop} {w : World} {v : Value} {t : TypeId} {g : Nat} (hgd : o.guard = none) (ho : o.op = .load t (.global g)) (hl : (Instr.loadAt t (.pointer (some ⟨g, 0, none⟩))).run Tryz.prog w = .ok v w)
    (h : wpList Tryz.prog ops Q rest (a.put o.dst v) w) : wpList Tryz.prog ops Q (o :: rest) a w := by
  refine wpList_plain hgd fun K hK => ?_
  unfold Oper.wp execOp
  simp only [ho, Act.eval, hl, Sem.run_bind, Sem.run_pure, Result.andThen_ok]
  exact hK _ _ h
set_option maxRecDepth 1000000 in
theorem load_syl (w : World) (h : Syl w) : (Instr.loadAt 125 (.pointer (some ⟨0, 0, none⟩))).run Tryz.prog w = .ok (.agg sylC.toArray) w := by
  have h2 := run_loadCells_list (P := Tryz.prog) w ⟨0, 0, none⟩ sylC (fun j v hv => by rw [Addr.add_lit, Nat.zero_add]; exact h j v hv)
  have hs : (Tryz.prog.info? 125).map (fun i => i.size) = some 20 := by kernel_rfl
  have hu := Tryz.underlying125
  cases hq : Tryz.prog.info? 125 with
  | none => rw [hq] at hs; cases hs
  | some i =>
    have hi : i.size = 20 := by rw [hq] at hs; simpa using hs
    simp only [Instr.loadAt, Instr.sureAddr, Sem.run_bind, Sem.run_pure, Result.andThen]
    rw [show sylC.length = 20 from rfl] at h2
    simp [loadVar, isAgg, sizeOf, typeInfo, hq, hu, hi, h2]
theorem index_syl0 (w : World) : (Instr.index 125 (.agg sylC.toArray) (.int .i64 0)).run Tryz.prog w = .ok (.agg #[.int .i64 4, .int .i64 4]) w := by kernel_rfl
theorem index_syl1 (w : World) : (Instr.index 125 (.agg sylC.toArray) (.int .i64 1)).run Tryz.prog w = .ok (.agg #[.int .i64 4, .int .i64 5]) w := by kernel_rfl
theorem index_syl2 (w : World) : (Instr.index 125 (.agg sylC.toArray) (.int .i64 2)).run Tryz.prog w = .ok (.agg #[.int .i64 4, .int .i64 7]) w := by kernel_rfl
theorem index_syl3 (w : World) : (Instr.index 125 (.agg sylC.toArray) (.int .i64 3)).run Tryz.prog w = .ok (.agg #[.int .i64 4, .int .i64 8]) w := by kernel_rfl
theorem index_syl4 (w : World) : (Instr.index 125 (.agg sylC.toArray) (.int .i64 4)).run Tryz.prog w = .ok (.agg #[.int .i64 7, .int .i64 5]) w := by kernel_rfl
theorem index_syl5 (w : World) : (Instr.index 125 (.agg sylC.toArray) (.int .i64 5)).run Tryz.prog w = .ok (.agg #[.int .i64 7, .int .i64 6]) w := by kernel_rfl
theorem index_syl6 (w : World) : (Instr.index 125 (.agg sylC.toArray) (.int .i64 6)).run Tryz.prog w = .ok (.agg #[.int .i64 5, .int .i64 5]) w := by kernel_rfl
theorem index_syl7 (w : World) : (Instr.index 125 (.agg sylC.toArray) (.int .i64 7)).run Tryz.prog w = .ok (.agg #[.int .i64 5, .int .i64 6]) w := by kernel_rfl
theorem index_syl8 (w : World) : (Instr.index 125 (.agg sylC.toArray) (.int .i64 8)).run Tryz.prog w = .ok (.agg #[.int .i64 8, .int .i64 6]) w := by kernel_rfl
theorem index_syl9 (w : World) : (Instr.index 125 (.agg sylC.toArray) (.int .i64 9)).run Tryz.prog w = .ok (.agg #[.int .i64 6, .int .i64 6]) w := by kernel_rfl
theorem index_syl (k : Nat) (a b : Int) (h : syl[k]? = some (a, b)) (w : World) : (Instr.index 125 (.agg sylC.toArray) (.int .i64 (k : Int))).run Tryz.prog w = .ok (.agg #[.int .i64 a, .int .i64 b]) w := by
  match k, h with
  | 0, h => cases h; exact index_syl0 w
  | 1, h => cases h; exact index_syl1 w
  | 2, h => cases h; exact index_syl2 w
  | 3, h => cases h; exact index_syl3 w
  | 4, h => cases h; exact index_syl4 w
  | 5, h => cases h; exact index_syl5 w
  | 6, h => cases h; exact index_syl6 w
  | 7, h => cases h; exact index_syl7 w
  | 8, h => cases h; exact index_syl8 w
  | 9, h => cases h; exact index_syl9 w
  | k + 10, h => simp [syl] at h
theorem any_drop {k : Nat} {a b x y : Int} (h : syl[k]? = some (x, y)) : (syl.drop k).any (fun s => s.1 == a && s.2 == b) = ((x == a && y == b) || (syl.drop (k + 1)).any (fun s => s.1 == a && s.2 == b)) := by
  have hk := (List.getElem?_eq_some_iff.1 h).1
  rw [List.drop_eq_getElem_cons hk, (List.getElem?_eq_some_iff.1 h).2, List.any_cons]
set_option maxHeartbeats 4000000 in
set_option maxRecDepth 1000000 in
theorem insyl_any (a b : Int) (w : World) (h : Syl w) : Calls Tryz.prog 58 #[.agg #[.int .i64 a, .int .i64 b]] w fun e w' => e = .returned (.bool (inSyl a b)) ∧ Below w.heap.size w w' := by
  have B1 : Below w.heap.size w (w.alloc (.cells #[.int .i64 a, .int .i64 b] 90)) := (Below.refl _ w).alloc (Nat.le_refl _) _
  have hl := load_syl _ (h.below B1)
  have HB1 : Hid (Below w.heap.size w (w.alloc (.cells #[.int .i64 a, .int .i64 b] 90))) := B1
  have HN1 : Hid ((w.alloc (.cells #[.int .i64 a, .int .i64 b] 90)).heap[w.heap.size]? = some (.cells #[.int .i64 a, .int .i64 b] 90 (0, 0))) := World.alloc_heap_new _ _
  have HIX : Hid (∀ (k : Nat) (x y : Int), syl[k]? = some (x, y) → ∀ w, (Instr.index 125 (.agg sylC.toArray) (.int .i64 (k : Int))).run Tryz.prog w = .ok (.agg #[.int .i64 x, .int .i64 y]) w) := index_syl
  have HD : Hid (∀ k, k < 10 → ∃ x y, syl[k]? = some (x, y) ∧ (syl.drop k).any (fun s => s.1 == a && s.2 == b) = ((x == a && y == b) || (syl.drop (k + 1)).any (fun s => s.1 == a && s.2 == b))) := fun k hk => by
    have hk' : k < syl.length := hk
    exact ⟨_, _, List.getElem?_eq_getElem hk', any_drop (List.getElem?_eq_getElem hk')⟩
  have HIN : Hid (inSyl a b = (syl.drop 0).any (fun s => s.1 == a && s.2 == b)) := rfl
  clear h B1
  generalize sylC.toArray = SY at *
  generalize inSyl a b = R at *
  go_enter Tryz.func58, Tryz.ntmps58
  go_wp2_with (refine wpList_load_g rfl rfl hl ?_)
  clear hl
  go_loopw [6] (fun i wr => ∃ k : Nat, k ≤ 10 ∧ i = .int .i64 k ∧ Hid (R = (syl.drop k).any (fun s => s.1 == a && s.2 == b)) ∧ Hid (Below w.heap.size w wr) ∧ Hid (wr.heap[w.heap.size]? = some (.cells #[.int .i64 a, .int .i64 b] 90 (0, 0)))) (fun i _ => 10 - (RowKit.intOf i).toNat)
  case atStart => exact ⟨0, Nat.zero_le _, rfl, HIN, HB1, HN1⟩
  case round =>
    clear HIN HB1 HN1
    obtain ⟨k, hk, rfl, HR, HB, HN⟩ := hrel
    by_cases hlt : k < 10
    · have hlt' : (k : Int) < 10 := by omega
      obtain ⟨x, y, hx, hd⟩ := HD.out k hlt
      have ix := HIX.out k x y hx
      have p0 := cell_of_row wr w.heap.size 0 _ _ _ HN.out
      have p1 := cell_of_row wr w.heap.size 1 _ _ _ HN.out
      simp at p0 p1
      have HNN : Hid (R = ((x == a && y == b) || (syl.drop (k + 1)).any (fun s => s.1 == a && s.2 == b))) := HR.out.trans hd
      have hpl := (Array.getElem?_eq_some_iff.1 HN.out).1
      have HB2 : Hid (Below w.heap.size w (wr.alloc (.cells #[.int .i64 x, .int .i64 y] 90))) := HB.out.alloc (by omega) _
      have HN2 : Hid ((wr.alloc (.cells #[.int .i64 x, .int .i64 y] 90)).heap[w.heap.size]? = some (.cells #[.int .i64 a, .int .i64 b] 90 (0, 0))) := (Below.heap_alloc _ _ _ hpl).trans HN.out
      clear hx hd HR HB HN
      cases q1 : (x == a) <;> cases q2 : (y == b)
      · have HR2 : Hid (R = (syl.drop (k + 1)).any (fun s => s.1 == a && s.2 == b)) := by have := HNN.out; rw [q1, q2] at this; exact this
        clear HNN
        go_wp2
        go_roundw
        case rel => exact ⟨k + 1, by omega, by go_num, HR2, HB2, HN2⟩
        case measure => simp [RowKit.intOf]; omega
      · have HR2 : Hid (R = (syl.drop (k + 1)).any (fun s => s.1 == a && s.2 == b)) := by have := HNN.out; rw [q1, q2] at this; exact this
        clear HNN
        go_wp2
        go_roundw
        case rel => exact ⟨k + 1, by omega, by go_num, HR2, HB2, HN2⟩
        case measure => simp [RowKit.intOf]; omega
      · have HR2 : Hid (R = (syl.drop (k + 1)).any (fun s => s.1 == a && s.2 == b)) := by have := HNN.out; rw [q1, q2] at this; exact this
        clear HNN
        go_wp2
        go_roundw
        case rel => exact ⟨k + 1, by omega, by go_num, HR2, HB2, HN2⟩
        case measure => simp [RowKit.intOf]; omega
      · have hR : R = true := by have := HNN.out; rw [q1, q2] at this; exact this
        clear HNN
        subst hR
        go_wp2
        try rw [Exit.noGoto_ret]
        go_ret
        exact ⟨rfl, HB2.out⟩
    · obtain rfl : k = 10 := by omega
      have hR : R = false := HR.out
      subst hR
      go_wp2
      go_ret
      exact ⟨rfl, HB.out⟩
end Go.Proofs.YtbdojobplhpnbaaGreatDoor.clu
end

section
/- cluster.endsInPicture, cluster.flagsAtEnd; texts in memory. -/
set_option linter.unusedVariables false
set_option linter.unusedSimpArgs false
namespace Go.Proofs.YtbdojobplhpnbaaGreatDoor.clu
open Go.RowKit Go.Maps
open Go.Proofs.YtbdojobplhpnbaaGreatDoor.lin Go.Proofs.YtbdojobplhpnbaaGreatDoor.prp

theorem iv_cells {w : World} {ao : Option Addr} {n cap : Nat} {L : List Int} (h : IV w (.slice ao n cap) L) : L.length = n ∧ ∀ k, k < n → ∃ x b o, ao = some ⟨b, o, none⟩ ∧ w.cell? ⟨b, o + k, none⟩ = some (.int .i64 x) ∧ L[k]? = some x := by
  obtain ⟨a, c, e, hv⟩ := h
  injection e with e1 e2 e3
  subst e1 e2 e3
  refine ⟨rfl, fun k hk => ?_⟩
  obtain ⟨b, o, e, hc⟩ := hv (by omega)
  refine ⟨L[k], b, o, e, ?_, List.getElem?_eq_getElem hk⟩
  rw [hc k hk, List.getD_eq_getElem?_getD, List.getElem?_eq_getElem hk]
  rfl
theorem iv_take {w : World} {ao : Option Addr} {len cap : Nat} {l : List Int} (h : IV w (.slice ao len cap) l) (n : Nat) (hn : n ≤ len) : IV w (.slice ao n cap) (l.take n) := by
  obtain ⟨a, c, e, hc⟩ := h
  injection e with e1 e2 e3
  subst e1 e2 e3
  have hl : (l.take n).length = n := by rw [List.length_take]; omega
  refine ⟨_, _, by rw [hl], fun h0 => ?_⟩
  obtain ⟨b, o, e, hx⟩ := hc (by omega)
  refine ⟨b, o, e, fun j hj => ?_⟩
  rw [hx j (by omega), List.getD_eq_getElem?_getD, List.getD_eq_getElem?_getD, List.getElem?_take_of_lt (by omega)]
theorem back_take {l : List Int} {n m : Nat} (h : n ≤ m) : back (l.take m) n = back l n := by
  unfold back
  rw [List.take_take, Nat.min_eq_left h]
theorem pic_cons (k : Int) (l : List Int) : endsPic (k :: l) = if k = 9 then endsPic l else k == 13 := rfl
theorem flag_cons (k : Int) (l : List Int) : flagsN (k :: l) = if k = 14 then flagsN l + 1 else 0 := rfl
theorem flags_le (l : List Int) : flagsN l ≤ l.length := by
  induction l with
  | nil => exact Nat.le_refl _
  | cons k l ih => rw [flag_cons, List.length_cons]; split <;> omega
set_option maxHeartbeats 4000000 in
set_option maxRecDepth 1000000 in
theorem ends_t (t : Nat) (ao : Option Addr) (n cap : Nat) (L : List Int) (w : World) (h : Tabs w t) (hv : IV w (.slice ao n cap) L) (hn : n ≤ 1000000) :
    Calls Tryz.prog 60 #[.pointer (some ⟨t, 0, none⟩), .slice ao n cap] w fun e w' => e = .returned (.bool (endsPic (back L n))) ∧ Below w.heap.size w w' := by
  obtain ⟨hl, hat⟩ := iv_cells hv
  have HAT : Hid (∀ k, k < n → ∃ x b o, ao = some ⟨b, o, none⟩ ∧ w.cell? ⟨b, o + k, none⟩ = some (.int .i64 x) ∧ L[k]? = some x) := hat
  have HT : Hid (Tabs w t) := h
  have HBK : Hid (∀ (k : Nat) (x : Int), L[k]? = some x → endsPic (back L (k + 1)) = if kd x = 9 then endsPic (back L k) else kd x == 13) := fun k x h => by rw [back_succ h]; rfl
  have HB0 : Hid (endsPic (back L 0) = false) := rfl
  obtain ⟨R, hR⟩ : ∃ R, endsPic (back L n) = R := ⟨_, rfl⟩
  have HR0 : Hid (endsPic (back L n) = R) := hR
  rw [hR]
  have w0 : IntKind.i64.wrap ((n : Int) - 1) = (n : Int) - 1 := by rw [IntKind.wrap_i64]; omega
  clear h hv hat hl hR
  go_enter Tryz.func60, Tryz.ntmps60
  go_wp2
  go_loopw [5] (fun i wr => ∃ m : Nat, m ≤ n ∧ i = .int .i64 ((m : Int) - 1) ∧ Hid (endsPic (back L m) = R) ∧ Hid (Below w.heap.size w wr)) (fun i _ => (RowKit.intOf i + 1).toNat)
  case atStart => exact ⟨n, Nat.le_refl _, rfl, HR0, Below.refl _ _⟩
  case round =>
    clear HR0
    obtain ⟨m, hm, rfl, HR, HB⟩ := hrel
    rcases Nat.eq_zero_or_pos m with h0 | h0
    · subst h0
      have hR : R = false := HR.out.symm.trans HB0.out
      subst hR
      have hge : ¬ (0 : Int) ≤ ((0 : Nat) : Int) - 1 := by omega
      clear HR
      go_wp2
      go_ret
      exact ⟨rfl, HB.out⟩
    · obtain ⟨j, rfl⟩ : ∃ j, m = j + 1 := ⟨m - 1, by omega⟩
      have ej : ((j + 1 : Nat) : Int) - 1 = (j : Int) := by omega
      rw [ej]
      obtain ⟨x, b, o, rfl, hc0, hx⟩ := HAT.out j (by omega)
      have hc := cell_below HB.out hc0
      have HN : Hid ((if kd x = 9 then endsPic (back L j) else kd x == 13) = R) := (HBK.out j x hx).symm.trans HR.out
      have C := kind_t t x wr (HT.out.below HB.out)
      have hj0 : (0 : Int) ≤ (j : Int) := by omega
      have hjn : (j : Int) < (n : Int) := by omega
      clear hc0 hx HR ej h0
      generalize kd x = q at *
      go_wp2_with fail
      refine C.mono ?_
      rintro e w1 ⟨rfl, hb⟩
      clear C
      have HB1 : Hid (Below w.heap.size w w1) := HB.out.trans (hb.mono HB.out.size)
      clear HB hb hc
      have wj : IntKind.i64.wrap ((j : Int) - 1) = (j : Int) - 1 := by rw [IntKind.wrap_i64]; omega
      by_cases hq : q = 9
      · have HR2 : Hid (endsPic (back L j) = R) := by have := HN.out; rw [if_pos hq] at this; exact this
        have q1 : (q != 9) = false := by rw [hq]; rfl
        have q2 : (q == 9) = true := by rw [hq]; rfl
        clear HN hq
        go_wp2
        exact ⟨⟨j, by omega, rfl, HR2, HB1⟩, by simp [RowKit.intOf]⟩
      · have hR : (q == 13) = R := by have := HN.out; rw [if_neg hq] at this; exact this
        have q1 : (q != 9) = true := bne_iff_ne.2 hq
        have q2 : (q == 9) = false := beq_eq_false_iff_ne.2 hq
        clear HN hq
        go_wp2
        try rw [Exit.noGoto_ret]
        go_ret
        exact ⟨by first | rfl | (rw [hR]; rfl), HB1.out⟩
set_option maxHeartbeats 4000000 in
set_option maxRecDepth 1000000 in
theorem flags_t (t : Nat) (ao : Option Addr) (n cap : Nat) (L : List Int) (w : World) (h : Tabs w t) (hv : IV w (.slice ao n cap) L) (hn : n ≤ 1000000) :
    Calls Tryz.prog 61 #[.pointer (some ⟨t, 0, none⟩), .slice ao n cap] w fun e w' => e = .returned (.int .i64 ((flagsN (back L n) : Nat) : Int)) ∧ Below w.heap.size w w' := by
  obtain ⟨hl, hat⟩ := iv_cells hv
  have HAT : Hid (∀ k, k < n → ∃ x b o, ao = some ⟨b, o, none⟩ ∧ w.cell? ⟨b, o + k, none⟩ = some (.int .i64 x) ∧ L[k]? = some x) := hat
  have HT : Hid (Tabs w t) := h
  have HBK : Hid (∀ (k : Nat) (x : Int), L[k]? = some x → flagsN (back L (k + 1)) = if kd x = 14 then flagsN (back L k) + 1 else 0) := fun k x h => by rw [back_succ h]; rfl
  have HB0 : Hid (flagsN (back L 0) = 0) := rfl
  obtain ⟨R, hR⟩ : ∃ R, flagsN (back L n) = R := ⟨_, rfl⟩
  have HR0 : Hid (R = 0 + flagsN (back L n)) := by unfold Hid; omega
  rw [hR]
  have w0 : IntKind.i64.wrap ((n : Int) - 1) = (n : Int) - 1 := by rw [IntKind.wrap_i64]; omega
  clear h hv hat hl hR
  go_enter Tryz.func61, Tryz.ntmps61
  go_wp2
  go_loopw [5] (fun i wr => ∃ j m : Nat, j + m = n ∧ i = .int .i64 (j : Int) ∧ Hid (R = j + flagsN (back L m)) ∧ Hid (Below w.heap.size w wr)) (fun i _ => n - (RowKit.intOf i).toNat)
  case atStart => exact ⟨0, n, by omega, rfl, HR0, Below.refl _ _⟩
  case round =>
    clear HR0
    obtain ⟨j, m, hm, rfl, HR, HB⟩ := hrel
    rcases Nat.eq_zero_or_pos m with h0 | h0
    · subst h0
      have hR : R = j := by have := HR.out; rw [HB0.out] at this; omega
      subst hR
      have hge : ¬ (R : Int) < (n : Int) := by omega
      clear HR
      go_wp2
      go_ret
      exact ⟨rfl, HB.out⟩
    · obtain ⟨k, rfl⟩ : ∃ k, m = k + 1 := ⟨m - 1, by omega⟩
      obtain ⟨x, b, o, rfl, hc0, hx⟩ := HAT.out k (by omega)
      have hc := cell_below HB.out hc0
      have HN : Hid (R = j + if kd x = 14 then flagsN (back L k) + 1 else 0) := by have := HR.out; rw [HBK.out k x hx] at this; exact this
      have C := kind_t t x wr (HT.out.below HB.out)
      have hlt : (j : Int) < (n : Int) := by omega
      have w1 : IntKind.i64.wrap ((n : Int) - 1 - (j : Int)) = (k : Int) := by rw [IntKind.wrap_i64]; omega
      have hk0 : (0 : Int) ≤ (k : Int) := by omega
      have hkn : (k : Int) < (n : Int) := by omega
      clear hc0 hx HR h0
      generalize kd x = q at *
      go_wp2_with fail
      refine C.mono ?_
      rintro e w2 ⟨rfl, hb⟩
      clear C
      have HB1 : Hid (Below w.heap.size w w2) := HB.out.trans (hb.mono HB.out.size)
      clear HB hb hc
      by_cases hq : q = 14
      · have HR2 : Hid (R = (j + 1) + flagsN (back L k)) := by have := HN.out; rw [if_pos hq] at this; unfold Hid; omega
        have q2 : (q == 14) = true := by rw [hq]; rfl
        clear HN hq
        go_wp2
        exact ⟨⟨j + 1, k, by omega, by go_num, HR2, HB1⟩, by simp [RowKit.intOf]; omega⟩
      · have hR : R = j := by have := HN.out; rw [if_neg hq] at this; exact this
        have q2 : (q == 14) = false := beq_eq_false_iff_ne.2 hq
        clear HN hq
        subst hR
        go_wp2
        go_ret
        exact ⟨rfl, HB1.out⟩
end Go.Proofs.YtbdojobplhpnbaaGreatDoor.clu
end
