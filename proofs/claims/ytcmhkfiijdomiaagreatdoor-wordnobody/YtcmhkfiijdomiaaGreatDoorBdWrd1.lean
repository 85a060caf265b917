/- Texts that the proof leans on, one behind the other. -/
import Derived.Test.YtcmhkfiijdomiaaGreatDoorBdPrp6
import Derived.Laws.Rows
import Derived.OrdersHeld
import Derived.Deep.RegionHeld3

section
/- Words, plainly: a break's number, the edges of a text. -/
set_option linter.unusedVariables false
set_option linter.unusedSimpArgs false
namespace Go.Proofs.YtcmhkfiijdomiaaGreatDoor.wrd
open Go.Proofs.YtcmhkfiijdomiaaGreatDoor.prp (sF worL)

/-- The names of the breaks, by number. -/
def nmW : List (List UInt8) := [[], [67, 82], [76, 70], [78, 101, 119, 108, 105, 110, 101], [90, 87, 74], [69, 120, 116, 101, 110, 100], [70, 111, 114, 109, 97, 116], [80, 105, 99, 116, 111, 103, 114, 97, 112, 104, 105, 99], [83, 112, 97, 99, 101], [76, 101, 116, 116, 101, 114], [72, 101, 98, 114, 101, 119], [83, 105, 110, 103, 108, 101, 81, 117, 111, 116, 101], [68, 111, 117, 98, 108, 101, 81, 117, 111, 116, 101], [77, 105, 100, 76, 101, 116, 116, 101, 114], [77, 105, 100, 78, 117, 109], [77, 105, 100, 78, 117, 109, 76, 101, 116], [78, 117, 109, 101, 114, 105, 99], [75, 97, 116, 97, 107, 97, 110, 97], [74, 111, 105, 110, 101, 114], [70, 108, 97, 103]]
/-- A break's number, by its name. -/
def wS (s : List UInt8) : Int :=
  if s = [67, 82] then 1 else
  if s = [76, 70] then 2 else
  if s = [78, 101, 119, 108, 105, 110, 101] then 3 else
  if s = [90, 87, 74] then 4 else
  if s = [69, 120, 116, 101, 110, 100] then 5 else
  if s = [70, 111, 114, 109, 97, 116] then 6 else
  if s = [80, 105, 99, 116, 111, 103, 114, 97, 112, 104, 105, 99] then 7 else
  if s = [83, 112, 97, 99, 101] then 8 else
  if s = [76, 101, 116, 116, 101, 114] then 9 else
  if s = [72, 101, 98, 114, 101, 119] then 10 else
  if s = [83, 105, 110, 103, 108, 101, 81, 117, 111, 116, 101] then 11 else
  if s = [68, 111, 117, 98, 108, 101, 81, 117, 111, 116, 101] then 12 else
  if s = [77, 105, 100, 76, 101, 116, 116, 101, 114] then 13 else
  if s = [77, 105, 100, 78, 117, 109] then 14 else
  if s = [77, 105, 100, 78, 117, 109, 76, 101, 116] then 15 else
  if s = [78, 117, 109, 101, 114, 105, 99] then 16 else
  if s = [75, 97, 116, 97, 107, 97, 110, 97] then 17 else
  if s = [74, 111, 105, 110, 101, 114] then 18 else
  if s = [70, 108, 97, 103] then 19 else 0
/-- The break of a code point, as a number. -/
def kw (r : Int) : Int := wS (sF [] worL r)
theorem wS_range (s : List UInt8) : 0 ≤ wS s ∧ wS s ≤ 19 := by
  unfold wS
  repeat' split
  all_goals omega
theorem wS_cases (s : List UInt8) : (∃ k : Nat, 0 < k ∧ k ≤ 19 ∧ s = nmW.getD k [] ∧ wS s = k) ∨ wS s = 0 := by
  by_cases h1 : s = [67, 82]
  · exact .inl ⟨1, by decide, by decide, h1, by rw [h1]; decide⟩
  by_cases h2 : s = [76, 70]
  · exact .inl ⟨2, by decide, by decide, h2, by rw [h2]; decide⟩
  by_cases h3 : s = [78, 101, 119, 108, 105, 110, 101]
  · exact .inl ⟨3, by decide, by decide, h3, by rw [h3]; decide⟩
  by_cases h4 : s = [90, 87, 74]
  · exact .inl ⟨4, by decide, by decide, h4, by rw [h4]; decide⟩
  by_cases h5 : s = [69, 120, 116, 101, 110, 100]
  · exact .inl ⟨5, by decide, by decide, h5, by rw [h5]; decide⟩
  by_cases h6 : s = [70, 111, 114, 109, 97, 116]
  · exact .inl ⟨6, by decide, by decide, h6, by rw [h6]; decide⟩
  by_cases h7 : s = [80, 105, 99, 116, 111, 103, 114, 97, 112, 104, 105, 99]
  · exact .inl ⟨7, by decide, by decide, h7, by rw [h7]; decide⟩
  by_cases h8 : s = [83, 112, 97, 99, 101]
  · exact .inl ⟨8, by decide, by decide, h8, by rw [h8]; decide⟩
  by_cases h9 : s = [76, 101, 116, 116, 101, 114]
  · exact .inl ⟨9, by decide, by decide, h9, by rw [h9]; decide⟩
  by_cases h10 : s = [72, 101, 98, 114, 101, 119]
  · exact .inl ⟨10, by decide, by decide, h10, by rw [h10]; decide⟩
  by_cases h11 : s = [83, 105, 110, 103, 108, 101, 81, 117, 111, 116, 101]
  · exact .inl ⟨11, by decide, by decide, h11, by rw [h11]; decide⟩
  by_cases h12 : s = [68, 111, 117, 98, 108, 101, 81, 117, 111, 116, 101]
  · exact .inl ⟨12, by decide, by decide, h12, by rw [h12]; decide⟩
  by_cases h13 : s = [77, 105, 100, 76, 101, 116, 116, 101, 114]
  · exact .inl ⟨13, by decide, by decide, h13, by rw [h13]; decide⟩
  by_cases h14 : s = [77, 105, 100, 78, 117, 109]
  · exact .inl ⟨14, by decide, by decide, h14, by rw [h14]; decide⟩
  by_cases h15 : s = [77, 105, 100, 78, 117, 109, 76, 101, 116]
  · exact .inl ⟨15, by decide, by decide, h15, by rw [h15]; decide⟩
  by_cases h16 : s = [78, 117, 109, 101, 114, 105, 99]
  · exact .inl ⟨16, by decide, by decide, h16, by rw [h16]; decide⟩
  by_cases h17 : s = [75, 97, 116, 97, 107, 97, 110, 97]
  · exact .inl ⟨17, by decide, by decide, h17, by rw [h17]; decide⟩
  by_cases h18 : s = [74, 111, 105, 110, 101, 114]
  · exact .inl ⟨18, by decide, by decide, h18, by rw [h18]; decide⟩
  by_cases h19 : s = [70, 108, 97, 103]
  · exact .inl ⟨19, by decide, by decide, h19, by rw [h19]; decide⟩
  right
  unfold wS
  rw [if_neg h1, if_neg h2, if_neg h3, if_neg h4, if_neg h5, if_neg h6, if_neg h7, if_neg h8, if_neg h9, if_neg h10, if_neg h11, if_neg h12, if_neg h13, if_neg h14, if_neg h15, if_neg h16, if_neg h17, if_neg h18, if_neg h19]
theorem wS_iff (s : List UInt8) (k : Nat) (h0 : 0 < k) (h1 : k ≤ 19) : wS s = k ↔ s = nmW.getD k [] := by
  constructor
  · intro h
    rcases wS_cases s with ⟨j, _, _, e, e2⟩ | e
    · have : j = k := by omega
      rw [← this]; exact e
    · omega
  · intro h
    subst h
    obtain rfl | rfl | rfl | rfl | rfl | rfl | rfl | rfl | rfl | rfl | rfl | rfl | rfl | rfl | rfl | rfl | rfl | rfl | rfl : k = 1 ∨ k = 2 ∨ k = 3 ∨ k = 4 ∨ k = 5 ∨ k = 6 ∨ k = 7 ∨ k = 8 ∨ k = 9 ∨ k = 10 ∨ k = 11 ∨ k = 12 ∨ k = 13 ∨ k = 14 ∨ k = 15 ∨ k = 16 ∨ k = 17 ∨ k = 18 ∨ k = 19 := by omega
    all_goals decide
theorem wS_beq (s : List UInt8) (k : Nat) (h0 : 0 < k) (h1 : k ≤ 19) (c : List UInt8) (hc : nmW.getD k [] = c) : (s == c) = (wS s == (k : Int)) := by
  rw [Bool.eq_iff_iff, beq_iff_eq, beq_iff_eq, wS_iff s k h0 h1, hc]
def lineE (k : Int) : Bool := k == 3 || k == 1 || k == 2
def passB (k : Int) : Bool := k == 5 || k == 6 || k == 4
def letB (k : Int) : Bool := k == 9 || k == 10
def quoB (k : Int) : Bool := k == 15 || k == 11
/-- Do rules 7 to 9 say no? -/
def joinB (a2 a b b2 : Int) : Bool :=
  (letB a && letB b) || (letB a && (b == 13 || quoB b) && letB b2) || (letB a2 && (a == 13 || quoB a) && letB b) || (a == 10 && b == 11) || (a == 10 && b == 12 && b2 == 10) || (a2 == 10 && a == 12 && b == 10) ||
  (((a == 16 || letB a) && b == 16) || (a == 16 && letB b)) || (a == 16 && (b == 14 || quoB b) && b2 == 16) || (a2 == 16 && (a == 14 || quoB a) && b == 16) || (a == 17 && b == 17) ||
  ((letB a || (a == 16 || a == 17 || a == 18)) && b == 18) || (a == 18 && (letB b || (b == 16 || b == 17)))
/-- The first one, or nothing. -/
def hdK (l : List Int) : Int := l.headD (-1)
/-- Some are passed by. -/
def skip : List Int → List Int
  | [] => []
  | k :: r => if passB k then skip r else k :: r
/-- How many flags stand first, some passed by. -/
def flW : List Int → Nat
  | [] => 0
  | k :: r => if passB k then flW r else if k = 19 then flW r + 1 else 0
/-- What rules 2 to 6 say of what touches the place: 0 nothing, 1 an edge, 2 none. -/
def nearV (a b : Int) : Int :=
  if a = 1 ∧ b = 2 then 2 else if lineE a = true ∨ lineE b = true then 1 else if (a = 4 ∧ b = 7) ∨ (a = 8 ∧ b = 8) ∨ passB b = true then 2 else 0
/-- Is a place an edge, by what stands ahead of it, read backward, and what stands behind? -/
def edgeK (bs fs : List Int) : Bool :=
  if nearV (hdK bs) (hdK fs) = 2 then false else if nearV (hdK bs) (hdK fs) = 1 then true
  else if joinB (hdK (skip (skip bs).tail)) (hdK (skip bs)) (hdK fs) (hdK (skip fs.tail)) then false
  else !(hdK fs == 19 && flW bs % 2 == 1)
/-- Backward from a place, as breaks. -/
def bk (l : List Int) (n : Nat) : List Int := ((l.take n).map kw).reverse
def fw (l : List Int) (n : Nat) : List Int := (l.drop n).map kw
def edgeW (l : List Int) (i : Int) : Bool := if l.length = 0 ∨ i < 0 ∨ (l.length : Int) < i then false else if i = 0 ∨ i = l.length then true else edgeK (bk l i.toNat) (fw l i.toNat)
theorem edge_end {l : List Int} (h : 0 < l.length) : edgeW l l.length = true := by
  unfold edgeW
  rw [if_neg (by omega), if_pos (.inr rfl)]
theorem edge_zero {l : List Int} (h : 0 < l.length) : edgeW l 0 = true := by
  unfold edgeW
  rw [if_neg (by omega), if_pos (.inl rfl)]
theorem bk_zero (l : List Int) : bk l 0 = [] := rfl
theorem bk_succ {l : List Int} {n : Nat} {x : Int} (h : l[n]? = some x) : bk l (n + 1) = kw x :: bk l n := by
  unfold bk
  rw [List.take_add_one, h, List.map_append, List.reverse_append]
  rfl
theorem fw_end {l : List Int} {n : Nat} (h : l.length ≤ n) : fw l n = [] := by
  unfold fw
  rw [List.drop_eq_nil_of_le h]
  rfl
theorem fw_cons {l : List Int} {n : Nat} {x : Int} (h : l[n]? = some x) : fw l n = kw x :: fw l (n + 1) := by
  unfold fw
  obtain ⟨hn, hx⟩ := List.getElem?_eq_some_iff.1 h
  rw [List.drop_eq_getElem_cons hn, hx]
  rfl
theorem kw_range (r : Int) : 0 ≤ kw r ∧ kw r ≤ 19 := wS_range _
theorem skip_pass {k : Int} (r : List Int) (h : passB k = true) : skip (k :: r) = skip r := by rw [skip, if_pos h]
theorem skip_stop {k : Int} (r : List Int) (h : passB k = false) : skip (k :: r) = k :: r := by rw [skip, if_neg (by rw [h]; decide)]
theorem flW_pass {k : Int} (r : List Int) (h : passB k = true) : flW (k :: r) = flW r := by rw [flW, if_pos h]
theorem flW_stop {k : Int} (r : List Int) (h : passB k = false) : flW (k :: r) = if k = 19 then flW r + 1 else 0 := by rw [flW, if_neg (by rw [h]; decide)]
theorem flW_skip (l : List Int) : flW (skip l) = flW l := by
  induction l with
  | nil => rfl
  | cons k r ih =>
    cases h : passB k
    · rw [skip_stop _ h]
    · rw [skip_pass _ h, flW_pass _ h, ih]
theorem flW_le (l : List Int) : flW l ≤ l.length := by
  induction l with
  | nil => exact Nat.le_refl _
  | cons k r ih =>
    cases h : passB k
    · rw [flW_stop _ h, List.length_cons]; split <;> omega
    · rw [flW_pass _ h, List.length_cons]; omega
/-- How many stand ahead of a place up to the nearest one that is not passed by. -/
def aN (l : List Int) : Nat → Nat
  | 0 => 0
  | n + 1 => if passB (kw (l.getD n 0)) then aN l n else n + 1
theorem aN_le (l : List Int) : ∀ n, aN l n ≤ n
  | 0 => Nat.le_refl _
  | n + 1 => by
    have := aN_le l n
    unfold aN
    split <;> omega
theorem aN_pass {l : List Int} {n : Nat} {x : Int} (h : l[n]? = some x) (hp : passB (kw x) = true) : aN l (n + 1) = aN l n := by
  have e : l.getD n 0 = x := by rw [List.getD_eq_getElem?_getD, h]; rfl
  rw [aN, e, if_pos hp]
theorem aN_stop {l : List Int} {n : Nat} {x : Int} (h : l[n]? = some x) (hp : passB (kw x) = false) : aN l (n + 1) = n + 1 := by
  have e : l.getD n 0 = x := by rw [List.getD_eq_getElem?_getD, h]; rfl
  rw [aN, e, if_neg (by rw [hp]; decide)]
theorem skip_bk {l : List Int} : ∀ {n : Nat}, n ≤ l.length → skip (bk l n) = bk l (aN l n)
  | 0, _ => rfl
  | n + 1, h => by
    have hx : l[n]? = some l[n] := List.getElem?_eq_getElem (by omega)
    rw [bk_succ hx]
    cases hp : passB (kw l[n])
    · rw [skip_stop _ hp, aN_stop hx hp, bk_succ hx]
    · rw [skip_pass _ hp, aN_pass hx hp]
      exact skip_bk (by omega)
/-- The break at a place, or nothing. -/
def kAt (l : List Int) (i : Int) : Int := if i < 0 ∨ (l.length : Int) ≤ i then -1 else kw (l.getD i.toNat 0)
theorem kAt_in {l : List Int} {n : Nat} {x : Int} (h : l[n]? = some x) : kAt l (n : Int) = kw x := by
  obtain ⟨hn, hx⟩ := List.getElem?_eq_some_iff.1 h
  unfold kAt
  rw [if_neg (by omega), Int.toNat_natCast, List.getD_eq_getElem?_getD, h]
  rfl
theorem kAt_out {l : List Int} {i : Int} (h : i < 0 ∨ (l.length : Int) ≤ i) : kAt l i = -1 := by unfold kAt; rw [if_pos h]
theorem kAt_bk {l : List Int} {n : Nat} (h : n ≤ l.length) : kAt l ((n : Int) - 1) = hdK (bk l n) := by
  cases n with
  | zero => rw [kAt_out (.inl (by omega))]; rfl
  | succ n =>
    have hx : l[n]? = some l[n] := List.getElem?_eq_getElem (by omega)
    rw [show ((n + 1 : Nat) : Int) - 1 = (n : Int) by omega, kAt_in hx, bk_succ hx]
    rfl
theorem kAt_fw {l : List Int} {n : Nat} : kAt l (n : Int) = hdK (fw l n) := by
  by_cases h : n < l.length
  · have hx : l[n]? = some l[n] := List.getElem?_eq_getElem h
    rw [kAt_in hx, fw_cons hx]
    rfl
  · rw [kAt_out (.inr (by omega)), fw_end (by omega)]
    rfl
theorem kAt_range (l : List Int) (i : Int) : -1 ≤ kAt l i ∧ kAt l i ≤ 19 := by
  unfold kAt
  split
  · omega
  · have := kw_range (l.getD i.toNat 0); omega
theorem bk_tail {l : List Int} {n : Nat} (h : n + 1 ≤ l.length) : (bk l (n + 1)).tail = bk l n := by
  rw [bk_succ (List.getElem?_eq_getElem (by omega))]
  rfl
theorem skip_not (l : List Int) : passB (hdK (skip l)) = false := by
  induction l with
  | nil => decide
  | cons k r ih =>
    cases h : passB k
    · rw [skip_stop _ h]; exact h
    · rw [skip_pass _ h]; exact ih
end Go.Proofs.YtcmhkfiijdomiaaGreatDoor.wrd
end

section
/- word.made, word.kindOf, kind.in, subject.kind. -/
set_option linter.unusedVariables false
set_option linter.unusedSimpArgs false
namespace Go.Proofs.YtcmhkfiijdomiaaGreatDoor.wrd
open Go.RowKit Go.Maps
open Go.Proofs.YtcmhkfiijdomiaaGreatDoor.lin Go.Proofs.YtcmhkfiijdomiaaGreatDoor.prp

theorem beqT (c : List UInt8) : ((BA c).toList == c) = true := by rw [Lib.toList_data, BA_data]; exact beq_self_eq_true _
theorem beqF {v c : List UInt8} (h : v ≠ c) : ((BA v).toList == c) = false := by rw [Lib.toList_data, BA_data, beq_eq_false_iff_ne]; exact h
theorem cat_zero : sF [67, 110] catL 0 = [67, 99] := by decide +kernel
set_option maxRecDepth 1000000 in
theorem wmade_t (t : Nat) (w : World) (h : Tabs w t) : Calls Tryz.prog 38 #[.pointer (some ⟨t, 0, none⟩)] w fun e w' => e = .returned (.bool true) ∧ Below w.heap.size w w' := by
  have C := category_t t 0 w h
  rw [cat_zero] at C
  have hq : (BA [67, 99]).toList = [67, 99] := by rw [Lib.toList_data, BA_data]
  clear h
  go_enter Tryz.func38, Tryz.ntmps38
  go_wp2_with fail
  refine C.mono ?_
  rintro e w1 ⟨rfl, hb⟩
  clear C
  go_wp2
  go_ret
  exact ⟨rfl, hb⟩
set_option maxRecDepth 1000000 in
theorem wmade_no (v : Value) (w : World) (h : Unmade w v) : Calls Tryz.prog 38 #[v] w fun e w' => e = .returned (.bool false) ∧ w' = w := by
  have C := category_no v 0 w h
  clear h
  go_enter Tryz.func38, Tryz.ntmps38
  go_wp2_with fail
  refine C.mono ?_
  rintro e w1 ⟨rfl, hw⟩
  rw [hw]
  clear C hw
  go_wp2
  go_ret
  exact ⟨rfl, rfl⟩
/-- A kind, as the program has it: a bit each. -/
def bt (k : Int) : Int := if k < 0 then 0 else 2 ^ k.toNat
/-- Is one among several? -/
def inB (a b : Int) : Bool := bits .and .u32 a b != 0
set_option maxRecDepth 1000000 in
theorem in_any (a b : Int) (w : World) : Calls Tryz.prog 66 #[.int .u32 a, .int .u32 b] w fun e w' => e = .returned (.bool (inB a b)) ∧ w' = w := by
  unfold inB
  go_enter Tryz.func66, Tryz.ntmps66
  go_wp2
  go_ret
  exact ⟨rfl, rfl⟩
theorem of_fin {P : Int → Prop} (h : ∀ j : Fin 21, P ((j.val : Int) - 1)) (k : Int) (h0 : -1 ≤ k) (h1 : k ≤ 19) : P k := by
  have := h ⟨(k + 1).toNat, by omega⟩
  simp only at this
  rwa [show (((k + 1).toNat : Nat) : Int) - 1 = k by omega] at this
theorem in_pass (k : Int) (h0 : -1 ≤ k) (h1 : k ≤ 19) : inB (bt k) 112 = passB k := of_fin (P := fun k => inB (bt k) 112 = passB k) (by decide +kernel) k h0 h1
theorem bt_flag (k : Int) (h0 : -1 ≤ k) (h1 : k ≤ 19) : (bt k == 524288) = (k == 19) ∧ (bt k != 524288) = (k != 19) := of_fin (P := fun k => (bt k == 524288) = (k == 19) ∧ (bt k != 524288) = (k != 19)) (by decide +kernel) k h0 h1
set_option maxHeartbeats 4000000 in
set_option maxRecDepth 1000000 in
theorem kindOf_any (s : List UInt8) (w : World) : Calls Tryz.prog 92 #[.string (BA s)] w fun e w' => e = .returned (.int .u32 (bt (wS s))) ∧ w' = w := by
  by_cases h0 : s = [67, 82]
  · have hK : bt (wS s) = 2 := by rw [h0]; decide
    rw [hK]
    have g0 : ((BA s).toList == [67, 82]) = true := by rw [h0]; exact beqT _
    clear hK h0
    generalize BA s = B at *
    go_enter Tryz.func92, Tryz.ntmps92
    go_wp2
    try rw [Exit.noGoto_ret]
    go_ret
    exact ⟨rfl, rfl⟩
  by_cases h1 : s = [76, 70]
  · have hK : bt (wS s) = 4 := by rw [h1]; decide
    rw [hK]
    have g0 := beqF h0
    have g1 : ((BA s).toList == [76, 70]) = true := by rw [h1]; exact beqT _
    clear hK h0 h1
    generalize BA s = B at *
    go_enter Tryz.func92, Tryz.ntmps92
    go_wp2
    try rw [Exit.noGoto_ret]
    go_ret
    exact ⟨rfl, rfl⟩
  by_cases h2 : s = [78, 101, 119, 108, 105, 110, 101]
  · have hK : bt (wS s) = 8 := by rw [h2]; decide
    rw [hK]
    have g0 := beqF h0
    have g1 := beqF h1
    have g2 : ((BA s).toList == [78, 101, 119, 108, 105, 110, 101]) = true := by rw [h2]; exact beqT _
    clear hK h0 h1 h2
    generalize BA s = B at *
    go_enter Tryz.func92, Tryz.ntmps92
    go_wp2
    try rw [Exit.noGoto_ret]
    go_ret
    exact ⟨rfl, rfl⟩
  by_cases h3 : s = [90, 87, 74]
  · have hK : bt (wS s) = 16 := by rw [h3]; decide
    rw [hK]
    have g0 := beqF h0
    have g1 := beqF h1
    have g2 := beqF h2
    have g3 : ((BA s).toList == [90, 87, 74]) = true := by rw [h3]; exact beqT _
    clear hK h0 h1 h2 h3
    generalize BA s = B at *
    go_enter Tryz.func92, Tryz.ntmps92
    go_wp2
    try rw [Exit.noGoto_ret]
    go_ret
    exact ⟨rfl, rfl⟩
  by_cases h4 : s = [69, 120, 116, 101, 110, 100]
  · have hK : bt (wS s) = 32 := by rw [h4]; decide
    rw [hK]
    have g0 := beqF h0
    have g1 := beqF h1
    have g2 := beqF h2
    have g3 := beqF h3
    have g4 : ((BA s).toList == [69, 120, 116, 101, 110, 100]) = true := by rw [h4]; exact beqT _
    clear hK h0 h1 h2 h3 h4
    generalize BA s = B at *
    go_enter Tryz.func92, Tryz.ntmps92
    go_wp2
    try rw [Exit.noGoto_ret]
    go_ret
    exact ⟨rfl, rfl⟩
  by_cases h5 : s = [70, 111, 114, 109, 97, 116]
  · have hK : bt (wS s) = 64 := by rw [h5]; decide
    rw [hK]
    have g0 := beqF h0
    have g1 := beqF h1
    have g2 := beqF h2
    have g3 := beqF h3
    have g4 := beqF h4
    have g5 : ((BA s).toList == [70, 111, 114, 109, 97, 116]) = true := by rw [h5]; exact beqT _
    clear hK h0 h1 h2 h3 h4 h5
    generalize BA s = B at *
    go_enter Tryz.func92, Tryz.ntmps92
    go_wp2
    try rw [Exit.noGoto_ret]
    go_ret
    exact ⟨rfl, rfl⟩
  by_cases h6 : s = [80, 105, 99, 116, 111, 103, 114, 97, 112, 104, 105, 99]
  · have hK : bt (wS s) = 128 := by rw [h6]; decide
    rw [hK]
    have g0 := beqF h0
    have g1 := beqF h1
    have g2 := beqF h2
    have g3 := beqF h3
    have g4 := beqF h4
    have g5 := beqF h5
    have g6 : ((BA s).toList == [80, 105, 99, 116, 111, 103, 114, 97, 112, 104, 105, 99]) = true := by rw [h6]; exact beqT _
    clear hK h0 h1 h2 h3 h4 h5 h6
    generalize BA s = B at *
    go_enter Tryz.func92, Tryz.ntmps92
    go_wp2
    try rw [Exit.noGoto_ret]
    go_ret
    exact ⟨rfl, rfl⟩
  by_cases h7 : s = [83, 112, 97, 99, 101]
  · have hK : bt (wS s) = 256 := by rw [h7]; decide
    rw [hK]
    have g0 := beqF h0
    have g1 := beqF h1
    have g2 := beqF h2
    have g3 := beqF h3
    have g4 := beqF h4
    have g5 := beqF h5
    have g6 := beqF h6
    have g7 : ((BA s).toList == [83, 112, 97, 99, 101]) = true := by rw [h7]; exact beqT _
    clear hK h0 h1 h2 h3 h4 h5 h6 h7
    generalize BA s = B at *
    go_enter Tryz.func92, Tryz.ntmps92
    go_wp2
    try rw [Exit.noGoto_ret]
    go_ret
    exact ⟨rfl, rfl⟩
  by_cases h8 : s = [76, 101, 116, 116, 101, 114]
  · have hK : bt (wS s) = 512 := by rw [h8]; decide
    rw [hK]
    have g0 := beqF h0
    have g1 := beqF h1
    have g2 := beqF h2
    have g3 := beqF h3
    have g4 := beqF h4
    have g5 := beqF h5
    have g6 := beqF h6
    have g7 := beqF h7
    have g8 : ((BA s).toList == [76, 101, 116, 116, 101, 114]) = true := by rw [h8]; exact beqT _
    clear hK h0 h1 h2 h3 h4 h5 h6 h7 h8
    generalize BA s = B at *
    go_enter Tryz.func92, Tryz.ntmps92
    go_wp2
    try rw [Exit.noGoto_ret]
    go_ret
    exact ⟨rfl, rfl⟩
  by_cases h9 : s = [72, 101, 98, 114, 101, 119]
  · have hK : bt (wS s) = 1024 := by rw [h9]; decide
    rw [hK]
    have g0 := beqF h0
    have g1 := beqF h1
    have g2 := beqF h2
    have g3 := beqF h3
    have g4 := beqF h4
    have g5 := beqF h5
    have g6 := beqF h6
    have g7 := beqF h7
    have g8 := beqF h8
    have g9 : ((BA s).toList == [72, 101, 98, 114, 101, 119]) = true := by rw [h9]; exact beqT _
    clear hK h0 h1 h2 h3 h4 h5 h6 h7 h8 h9
    generalize BA s = B at *
    go_enter Tryz.func92, Tryz.ntmps92
    go_wp2
    try rw [Exit.noGoto_ret]
    go_ret
    exact ⟨rfl, rfl⟩
  by_cases h10 : s = [83, 105, 110, 103, 108, 101, 81, 117, 111, 116, 101]
  · have hK : bt (wS s) = 2048 := by rw [h10]; decide
    rw [hK]
    have g0 := beqF h0
    have g1 := beqF h1
    have g2 := beqF h2
    have g3 := beqF h3
    have g4 := beqF h4
    have g5 := beqF h5
    have g6 := beqF h6
    have g7 := beqF h7
    have g8 := beqF h8
    have g9 := beqF h9
    have g10 : ((BA s).toList == [83, 105, 110, 103, 108, 101, 81, 117, 111, 116, 101]) = true := by rw [h10]; exact beqT _
    clear hK h0 h1 h2 h3 h4 h5 h6 h7 h8 h9 h10
    generalize BA s = B at *
    go_enter Tryz.func92, Tryz.ntmps92
    go_wp2
    try rw [Exit.noGoto_ret]
    go_ret
    exact ⟨rfl, rfl⟩
  by_cases h11 : s = [68, 111, 117, 98, 108, 101, 81, 117, 111, 116, 101]
  · have hK : bt (wS s) = 4096 := by rw [h11]; decide
    rw [hK]
    have g0 := beqF h0
    have g1 := beqF h1
    have g2 := beqF h2
    have g3 := beqF h3
    have g4 := beqF h4
    have g5 := beqF h5
    have g6 := beqF h6
    have g7 := beqF h7
    have g8 := beqF h8
    have g9 := beqF h9
    have g10 := beqF h10
    have g11 : ((BA s).toList == [68, 111, 117, 98, 108, 101, 81, 117, 111, 116, 101]) = true := by rw [h11]; exact beqT _
    clear hK h0 h1 h2 h3 h4 h5 h6 h7 h8 h9 h10 h11
    generalize BA s = B at *
    go_enter Tryz.func92, Tryz.ntmps92
    go_wp2
    try rw [Exit.noGoto_ret]
    go_ret
    exact ⟨rfl, rfl⟩
  by_cases h12 : s = [77, 105, 100, 76, 101, 116, 116, 101, 114]
  · have hK : bt (wS s) = 8192 := by rw [h12]; decide
    rw [hK]
    have g0 := beqF h0
    have g1 := beqF h1
    have g2 := beqF h2
    have g3 := beqF h3
    have g4 := beqF h4
    have g5 := beqF h5
    have g6 := beqF h6
    have g7 := beqF h7
    have g8 := beqF h8
    have g9 := beqF h9
    have g10 := beqF h10
    have g11 := beqF h11
    have g12 : ((BA s).toList == [77, 105, 100, 76, 101, 116, 116, 101, 114]) = true := by rw [h12]; exact beqT _
    clear hK h0 h1 h2 h3 h4 h5 h6 h7 h8 h9 h10 h11 h12
    generalize BA s = B at *
    go_enter Tryz.func92, Tryz.ntmps92
    go_wp2
    try rw [Exit.noGoto_ret]
    go_ret
    exact ⟨rfl, rfl⟩
  by_cases h13 : s = [77, 105, 100, 78, 117, 109]
  · have hK : bt (wS s) = 16384 := by rw [h13]; decide
    rw [hK]
    have g0 := beqF h0
    have g1 := beqF h1
    have g2 := beqF h2
    have g3 := beqF h3
    have g4 := beqF h4
    have g5 := beqF h5
    have g6 := beqF h6
    have g7 := beqF h7
    have g8 := beqF h8
    have g9 := beqF h9
    have g10 := beqF h10
    have g11 := beqF h11
    have g12 := beqF h12
    have g13 : ((BA s).toList == [77, 105, 100, 78, 117, 109]) = true := by rw [h13]; exact beqT _
    clear hK h0 h1 h2 h3 h4 h5 h6 h7 h8 h9 h10 h11 h12 h13
    generalize BA s = B at *
    go_enter Tryz.func92, Tryz.ntmps92
    go_wp2
    try rw [Exit.noGoto_ret]
    go_ret
    exact ⟨rfl, rfl⟩
  by_cases h14 : s = [77, 105, 100, 78, 117, 109, 76, 101, 116]
  · have hK : bt (wS s) = 32768 := by rw [h14]; decide
    rw [hK]
    have g0 := beqF h0
    have g1 := beqF h1
    have g2 := beqF h2
    have g3 := beqF h3
    have g4 := beqF h4
    have g5 := beqF h5
    have g6 := beqF h6
    have g7 := beqF h7
    have g8 := beqF h8
    have g9 := beqF h9
    have g10 := beqF h10
    have g11 := beqF h11
    have g12 := beqF h12
    have g13 := beqF h13
    have g14 : ((BA s).toList == [77, 105, 100, 78, 117, 109, 76, 101, 116]) = true := by rw [h14]; exact beqT _
    clear hK h0 h1 h2 h3 h4 h5 h6 h7 h8 h9 h10 h11 h12 h13 h14
    generalize BA s = B at *
    go_enter Tryz.func92, Tryz.ntmps92
    go_wp2
    try rw [Exit.noGoto_ret]
    go_ret
    exact ⟨rfl, rfl⟩
  by_cases h15 : s = [78, 117, 109, 101, 114, 105, 99]
  · have hK : bt (wS s) = 65536 := by rw [h15]; decide
    rw [hK]
    have g0 := beqF h0
    have g1 := beqF h1
    have g2 := beqF h2
    have g3 := beqF h3
    have g4 := beqF h4
    have g5 := beqF h5
    have g6 := beqF h6
    have g7 := beqF h7
    have g8 := beqF h8
    have g9 := beqF h9
    have g10 := beqF h10
    have g11 := beqF h11
    have g12 := beqF h12
    have g13 := beqF h13
    have g14 := beqF h14
    have g15 : ((BA s).toList == [78, 117, 109, 101, 114, 105, 99]) = true := by rw [h15]; exact beqT _
    clear hK h0 h1 h2 h3 h4 h5 h6 h7 h8 h9 h10 h11 h12 h13 h14 h15
    generalize BA s = B at *
    go_enter Tryz.func92, Tryz.ntmps92
    go_wp2
    try rw [Exit.noGoto_ret]
    go_ret
    exact ⟨rfl, rfl⟩
  by_cases h16 : s = [75, 97, 116, 97, 107, 97, 110, 97]
  · have hK : bt (wS s) = 131072 := by rw [h16]; decide
    rw [hK]
    have g0 := beqF h0
    have g1 := beqF h1
    have g2 := beqF h2
    have g3 := beqF h3
    have g4 := beqF h4
    have g5 := beqF h5
    have g6 := beqF h6
    have g7 := beqF h7
    have g8 := beqF h8
    have g9 := beqF h9
    have g10 := beqF h10
    have g11 := beqF h11
    have g12 := beqF h12
    have g13 := beqF h13
    have g14 := beqF h14
    have g15 := beqF h15
    have g16 : ((BA s).toList == [75, 97, 116, 97, 107, 97, 110, 97]) = true := by rw [h16]; exact beqT _
    clear hK h0 h1 h2 h3 h4 h5 h6 h7 h8 h9 h10 h11 h12 h13 h14 h15 h16
    generalize BA s = B at *
    go_enter Tryz.func92, Tryz.ntmps92
    go_wp2
    try rw [Exit.noGoto_ret]
    go_ret
    exact ⟨rfl, rfl⟩
  by_cases h17 : s = [74, 111, 105, 110, 101, 114]
  · have hK : bt (wS s) = 262144 := by rw [h17]; decide
    rw [hK]
    have g0 := beqF h0
    have g1 := beqF h1
    have g2 := beqF h2
    have g3 := beqF h3
    have g4 := beqF h4
    have g5 := beqF h5
    have g6 := beqF h6
    have g7 := beqF h7
    have g8 := beqF h8
    have g9 := beqF h9
    have g10 := beqF h10
    have g11 := beqF h11
    have g12 := beqF h12
    have g13 := beqF h13
    have g14 := beqF h14
    have g15 := beqF h15
    have g16 := beqF h16
    have g17 : ((BA s).toList == [74, 111, 105, 110, 101, 114]) = true := by rw [h17]; exact beqT _
    clear hK h0 h1 h2 h3 h4 h5 h6 h7 h8 h9 h10 h11 h12 h13 h14 h15 h16 h17
    generalize BA s = B at *
    go_enter Tryz.func92, Tryz.ntmps92
    go_wp2
    try rw [Exit.noGoto_ret]
    go_ret
    exact ⟨rfl, rfl⟩
  by_cases h18 : s = [70, 108, 97, 103]
  · have hK : bt (wS s) = 524288 := by rw [h18]; decide
    rw [hK]
    have g0 := beqF h0
    have g1 := beqF h1
    have g2 := beqF h2
    have g3 := beqF h3
    have g4 := beqF h4
    have g5 := beqF h5
    have g6 := beqF h6
    have g7 := beqF h7
    have g8 := beqF h8
    have g9 := beqF h9
    have g10 := beqF h10
    have g11 := beqF h11
    have g12 := beqF h12
    have g13 := beqF h13
    have g14 := beqF h14
    have g15 := beqF h15
    have g16 := beqF h16
    have g17 := beqF h17
    have g18 : ((BA s).toList == [70, 108, 97, 103]) = true := by rw [h18]; exact beqT _
    clear hK h0 h1 h2 h3 h4 h5 h6 h7 h8 h9 h10 h11 h12 h13 h14 h15 h16 h17 h18
    generalize BA s = B at *
    go_enter Tryz.func92, Tryz.ntmps92
    go_wp2
    try rw [Exit.noGoto_ret]
    go_ret
    exact ⟨rfl, rfl⟩
  have hK : bt (wS s) = 1 := by
    have : wS s = 0 := by unfold wS; rw [if_neg h0, if_neg h1, if_neg h2, if_neg h3, if_neg h4, if_neg h5, if_neg h6, if_neg h7, if_neg h8, if_neg h9, if_neg h10, if_neg h11, if_neg h12, if_neg h13, if_neg h14, if_neg h15, if_neg h16, if_neg h17, if_neg h18]
    rw [this]; decide
  rw [hK]
  have g0 := beqF h0
  have g1 := beqF h1
  have g2 := beqF h2
  have g3 := beqF h3
  have g4 := beqF h4
  have g5 := beqF h5
  have g6 := beqF h6
  have g7 := beqF h7
  have g8 := beqF h8
  have g9 := beqF h9
  have g10 := beqF h10
  have g11 := beqF h11
  have g12 := beqF h12
  have g13 := beqF h13
  have g14 := beqF h14
  have g15 := beqF h15
  have g16 := beqF h16
  have g17 := beqF h17
  have g18 := beqF h18
  clear hK h0 h1 h2 h3 h4 h5 h6 h7 h8 h9 h10 h11 h12 h13 h14 h15 h16 h17 h18
  generalize BA s = B at *
  go_enter Tryz.func92, Tryz.ntmps92
  go_wp2
  try rw [Exit.noGoto_ret]
  go_ret
  exact ⟨rfl, rfl⟩
/-- A text in memory. -/
structure Txt (w : World) (ao : Option Addr) (n cap : Nat) (l : List Int) : Prop where
  iv : IV w (.slice ao n cap) l
  fits : n ≤ cap
  top : cap ≤ 9223372036854775807
  ok : ∀ r ∈ l, okI r
  len : n ≤ 1000000
theorem Txt.below {w w' : World} {ao : Option Addr} {n cap : Nat} {l : List Int} (h : Txt w ao n cap l) (hb : Below w.heap.size w w') : Txt w' ao n cap l := ⟨h.iv.below hb, h.fits, h.top, h.ok, h.len⟩
theorem iv_cells {w : World} {ao : Option Addr} {n cap : Nat} {L : List Int} (h : IV w (.slice ao n cap) L) : L.length = n ∧ ∀ k, k < n → ∃ x b o, ao = some ⟨b, o, none⟩ ∧ w.cell? ⟨b, o + k, none⟩ = some (.int .i64 x) ∧ L[k]? = some x := by
  obtain ⟨a, c, e, hv⟩ := h
  injection e with e1 e2 e3
  subst e1 e2 e3
  refine ⟨rfl, fun k hk => ?_⟩
  obtain ⟨b, o, e, hc⟩ := hv (by omega)
  refine ⟨L[k], b, o, e, ?_, List.getElem?_eq_getElem hk⟩
  rw [hc k hk, List.getD_eq_getElem?_getD, List.getElem?_eq_getElem hk]
  rfl
theorem Txt.length {w : World} {ao : Option Addr} {n cap : Nat} {l : List Int} (h : Txt w ao n cap l) : l.length = n := (iv_cells h.iv).1
/-- A subject: the tables, the text, the place. -/
def subj (t : Nat) (ao : Option Addr) (N cap : Nat) (c : Int) : Value := .agg #[.pointer (some ⟨t, 0, none⟩), .slice ao N cap, .int .i64 c]
def subjO (t : Nat) (ao : Option Addr) (N cap : Nat) (c : Int) : Obj := .cells #[.pointer (some ⟨t, 0, none⟩), .slice ao N cap, .int .i64 c] 69
set_option maxHeartbeats 4000000 in
set_option maxRecDepth 1000000 in
theorem kind_t (t : Nat) (ao : Option Addr) (N cap : Nat) (l : List Int) (c i : Int) (w : World) (h : Tabs w t) (hv : Txt w ao N cap l) :
    Calls Tryz.prog 64 #[.agg #[.pointer (some ⟨t, 0, none⟩), .slice ao N cap, .int .i64 c], .int .i64 i] w fun e w' => e = .returned (.int .u32 (bt (kAt l i))) ∧ Below w.heap.size w w' := by
  obtain ⟨hl, hat⟩ := iv_cells hv.iv
  have hlen := hv.len
  have BA0 : Below w.heap.size w (w.alloc (.cells #[.pointer (some ⟨t, 0, none⟩), .slice ao N cap, .int .i64 c] 69)) := (Below.refl _ w).alloc (Nat.le_refl _) _
  have HBA : Hid (Below w.heap.size w (w.alloc (.cells #[.pointer (some ⟨t, 0, none⟩), .slice ao N cap, .int .i64 c] 69))) := BA0
  by_cases h1 : i < 0
  · have e0 : bt (kAt l i) = 0 := by rw [kAt_out (.inl h1)]; decide
    rw [e0]
    clear h hv hat hl e0 BA0
    go_enter Tryz.func64, Tryz.ntmps64
    go_wp2
    try rw [Exit.noGoto_ret]
    go_ret
    exact ⟨rfl, HBA.out⟩
  by_cases h2 : (N : Int) ≤ i
  · have e0 : bt (kAt l i) = 0 := by rw [kAt_out (.inr (by rw [hl]; exact h2))]; decide
    rw [e0]
    clear h hv hat hl e0 BA0
    go_enter Tryz.func64, Tryz.ntmps64
    go_wp2
    try rw [Exit.noGoto_ret]
    go_ret
    exact ⟨rfl, HBA.out⟩
  obtain ⟨k, rfl⟩ : ∃ k : Nat, i = (k : Int) := ⟨i.toNat, by omega⟩
  obtain ⟨x, b, o, rfl, cx, hx⟩ := hat k (by omega)
  have hk : kAt l (k : Int) = wS (sF [] worL x) := kAt_in hx
  rw [hk]
  have b1 : (0 : Int) ≤ (k : Int) := by omega
  have b2 : (k : Int) < (N : Int) := by omega
  have dx := cell_below BA0 cx
  have nb := World.alloc_heap_new w (.cells #[.pointer (some ⟨t, 0, none⟩), .slice (some ⟨b, o, none⟩) N cap, .int .i64 c] 69)
  have HW : Hid (∀ W, Below w.heap.size w W → Calls Tryz.prog 20 #[.pointer (some ⟨t, 0, none⟩), .int .i64 x] W fun e w' => e = .returned (.string (BA (sF [] worL x))) ∧ Below W.heap.size W w') := fun W hb => word_t t x W (h.below hb)
  have HK : Hid (∀ W, Calls Tryz.prog 92 #[.string (BA (sF [] worL x))] W fun e w' => e = .returned (.int .u32 (bt (wS (sF [] worL x)))) ∧ w' = W) := fun W => kindOf_any _ W
  clear h hv hat hl hk hx cx
  generalize sF [] worL x = s at *
  generalize hW0 : w.alloc (.cells #[.pointer (some ⟨t, 0, none⟩), .slice (some ⟨b, o, none⟩) N cap, .int .i64 c] 69) = W0 at *
  have d0 := cell_of_row _ w.heap.size 0 _ _ _ nb
  have d1 := cell_of_row _ w.heap.size 1 _ _ _ nb
  have d2 := cell_of_row _ w.heap.size 2 _ _ _ nb
  simp at d0 d1 d2
  clear nb
  go_enter Tryz.func64, Tryz.ntmps64
  go_wp2
  try rw [hW0]
  refine wp_region_noPanic ?_
  refine wp_region_held_drew (S := fun w' => w'.cell? ⟨w.heap.size, 0, none⟩ = some (.pointer (some ⟨t, 0, none⟩)) ∧ w'.cell? ⟨w.heap.size, 1, none⟩ = some (.slice (some ⟨b, o, none⟩) N cap) ∧ w'.cell? ⟨b, o + k, none⟩ = some (.int .i64 x)) (by kernel_rfl) ⟨d0, d1, dx⟩ (fun hHeld => ?_)
  have B0 : Below W0.heap.size W0 W0.drew := (Below.refl _ W0).drew
  have B1 : Below w.heap.size w W0.drew := HBA.out.drew
  generalize W0.drew = w1 at *
  refine wpAnyH_take (i := 0) (v := ?_) rfl (by kernel_rfl) (by kernel_rfl) (by kernel_rfl) (fun _ _ _ h => h) (Or.inl ⟨by rfl, ?_⟩) (by assumption) ?_
  rotate_left
  · (intro w' hSw; (try dsimp only at hSw); go_simp; try with_reducible rfl)
  try simp only [Act.put, List.getElem_toArray, List.getElem_cons_zero, List.getElem_cons_succ, List.setIfInBounds_toArray, List.set_cons_zero, List.set_cons_succ]
  refine wpAnyH_take (i := 1) (v := ?_) rfl (by kernel_rfl) (by kernel_rfl) (by kernel_rfl) (fun _ _ _ h => h) (Or.inl ⟨by rfl, ?_⟩) (by assumption) ?_
  rotate_left
  · (intro w' hSw; (try dsimp only at hSw); go_simp; try with_reducible rfl)
  try simp only [Act.put, List.getElem_toArray, List.getElem_cons_zero, List.getElem_cons_succ, List.setIfInBounds_toArray, List.set_cons_zero, List.set_cons_succ]
  refine wpAnyH_take (i := 2) (v := ?_) rfl (by kernel_rfl) (by kernel_rfl) (by kernel_rfl) (fun _ _ _ h => h) (Or.inl ⟨by rfl, ?_⟩) (by assumption) ?_
  rotate_left
  · (intro w' hSw; (try dsimp only at hSw); go_simp; try with_reducible rfl)
  try simp only [Act.put, List.getElem_toArray, List.getElem_cons_zero, List.getElem_cons_succ, List.setIfInBounds_toArray, List.set_cons_zero, List.set_cons_succ]
  refine wpAnyH_take (i := 3) (v := ?_) rfl (by kernel_rfl) (by kernel_rfl) (by kernel_rfl) (fun _ _ _ h => h) (Or.inl ⟨by rfl, ?_⟩) (by assumption) ?_
  rotate_left
  · (intro w' hSw; (try dsimp only at hSw); go_simp; try with_reducible rfl)
  try simp only [Act.put, List.getElem_toArray, List.getElem_cons_zero, List.getElem_cons_succ, List.setIfInBounds_toArray, List.set_cons_zero, List.set_cons_succ]
  refine wpAnyH_take (i := 4) (v := ?_) rfl (by kernel_rfl) (by kernel_rfl) (by kernel_rfl) (fun _ _ _ h => h) (Or.inl ⟨by rfl, ?_⟩) (by assumption) ?_
  rotate_left
  · (intro w' hSw; (try dsimp only at hSw); go_simp; try with_reducible rfl)
  try simp only [Act.put, List.getElem_toArray, List.getElem_cons_zero, List.getElem_cons_succ, List.setIfInBounds_toArray, List.set_cons_zero, List.set_cons_succ]
  refine wpAnyH_take (i := 5) (v := ?_) rfl (by kernel_rfl) (by kernel_rfl) (by kernel_rfl) (fun _ _ _ h => h) (Or.inl ⟨by rfl, ?_⟩) (by assumption) ?_
  rotate_left
  · (intro w' hSw; (try dsimp only at hSw); go_simp; try with_reducible rfl)
  try simp only [Act.put, List.getElem_toArray, List.getElem_cons_zero, List.getElem_cons_succ, List.setIfInBounds_toArray, List.set_cons_zero, List.set_cons_succ]
  refine wpAnyH_take (i := 6) (v := ?_) rfl (by kernel_rfl) (by kernel_rfl) (by kernel_rfl) (fun _ _ _ h => h) (Or.inl ⟨by rfl, ?_⟩) (by assumption) ?_
  rotate_left
  · (intro w' hSw; (try dsimp only at hSw); go_simp; try with_reducible rfl)
  try simp only [Act.put, List.getElem_toArray, List.getElem_cons_zero, List.getElem_cons_succ, List.setIfInBounds_toArray, List.set_cons_zero, List.set_cons_succ]
  refine wpAnyH_ready (rs := [7]) (by kernel_rfl) (by simp) ?_
  refine AllReadyH.cons rfl (fun K hK => ?_) AllReadyH.nil
  go_simp
  refine (HW.out _ B1).mono ?_
  rintro e w2 ⟨rfl, bq⟩
  have B2 : Below w.heap.size w w2 := B1.trans (bq.mono B1.size)
  have B02 : Below W0.heap.size W0 w2 := B0.trans (bq.mono B0.size)
  clear bq
  refine hK.out _ _ ⟨cell_below B02 d0, cell_below B02 d1, cell_below B02 dx⟩ (fun hHeld2 => ?_)
  clear hK K hHeld
  have hHeld := hHeld2
  clear hHeld2
  try simp only [Act.put, List.getElem_toArray, List.getElem_cons_zero, List.getElem_cons_succ, List.setIfInBounds_toArray, List.set_cons_zero, List.set_cons_succ]
  refine wpAnyH_ready (rs := [8]) (by kernel_rfl) (by simp) ?_
  refine AllReadyH.cons rfl (fun K hK => ?_) AllReadyH.nil
  go_simp
  refine (HK.out w2).mono ?_
  rintro e w3 ⟨rfl, hw⟩
  rw [hw]
  refine hK.out _ _ ⟨cell_below B02 d0, cell_below B02 d1, cell_below B02 dx⟩ (fun hHeld2 => ?_)
  clear hK K hHeld hw w3
  have hHeld := hHeld2
  clear hHeld2
  try simp only [Act.put, List.getElem_toArray, List.getElem_cons_zero, List.getElem_cons_succ, List.setIfInBounds_toArray, List.set_cons_zero, List.set_cons_succ]
  refine wpAnyH_take (i := 9) (v := ?_) rfl (by kernel_rfl) (by kernel_rfl) (by kernel_rfl) (fun _ _ _ h => h) (Or.inl ⟨by rfl, ?_⟩) (by assumption) ?_
  rotate_left
  · (intro w' hSw; (try dsimp only at hSw); go_simp; try with_reducible rfl)
  try simp only [Act.put, List.getElem_toArray, List.getElem_cons_zero, List.getElem_cons_succ, List.setIfInBounds_toArray, List.set_cons_zero, List.set_cons_succ]
  refine wpAnyH_done (by kernel_rfl) ?_ _
  refine NoPanic.normal ?_
  have HB3 : Hid (Below w.heap.size w w2) := B2
  clear B0 B1 B2 B02 hHeld d0 d1 d2 dx HW HK
  go_wp2
  go_ret
  exact ⟨rfl, HB3.out⟩
end Go.Proofs.YtcmhkfiijdomiaaGreatDoor.wrd
end
