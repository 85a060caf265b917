/- Texts that the proof leans on, one behind the other. -/
import Derived.Test.YtinlolmjafjhnaaGreatDoorBdLin3
import Derived.Test.YtinlolmjafjhnaaGreatDoorBdLin1
import Derived.Test.YtinlolmjafjhnaaGreatDoorBdLin2
import Derived.Shelf.Abstract
import Derived.Shelf.RegionOpen
import Derived.WalkKit
import Derived.OwnWalkIn
import Derived.TacticsInMore
import Derived.LoopNIn
import Derived.LoopIn
import Derived.Sort.LoopGhostIn
import Derived.Maps.AppendAt
import Derived.Deep.QuietTactic
import Derived.BigQuiet
import Derived.WalkSmall
import Derived.Deep.LoopGhost
import Derived.Lib.OthersKept

section
/- Lines and fields as plain lists of bytes. -/
set_option linter.unusedVariables false
set_option linter.unusedSimpArgs false
namespace Go.Proofs.YtinlolmjafjhnaaGreatDoor.lin
open Go.RowKit

def BA (l : List UInt8) : ByteArray := ⟨l.toArray⟩
theorem BA_list (s : ByteArray) : BA s.data.toList = s := rfl
theorem BA_data (l : List UInt8) : (BA l).data.toList = l := rfl
theorem BA_size (l : List UInt8) : (BA l).size = l.length := rfl
theorem size_list (s : ByteArray) : s.data.toList.length = s.size := Array.length_toList

/-- A list ahead of the first of lists. -/
def glue (x : List UInt8) : List (List UInt8) → List (List UInt8)
 | [] => [x]
 | h :: t => (x ++ h) :: t
/-- The parts of a list between a byte. -/
def cutL (b : UInt8) : List UInt8 → List (List UInt8)
 | [] => [[]]
 | x :: l => if x = b then [] :: cutL b l else glue [x] (cutL b l)

theorem glue_glue (x y : List UInt8) (L : List (List UInt8)) : glue x (glue y L) = glue (x ++ y) L := by
 cases L <;> simp [glue]
theorem cutL_ne (b : UInt8) (l : List UInt8) : cutL b l ≠ [] := by
 cases l with
 | nil => simp [cutL]
 | cons x l =>
  rw [cutL]; split
  ·simp
  ·cases cutL b l <;> simp [glue]
theorem glue_nil {L : List (List UInt8)} (h : L ≠ []) : glue [] L = L := by
 cases L with
 | nil => exact absurd rfl h
 | cons h t => rfl
theorem drop_cons (s : ByteArray) (p : Nat) (h : p < s.size) : s.data.toList.drop p = s[p]'h :: s.data.toList.drop (p + 1) := by
 rw [List.drop_eq_getElem_cons (by rw [size_list]; exact h)]
 rfl
theorem ext_list (s : ByteArray) (a p : Nat) : s.extract a p = BA ((s.data.toList.drop a).take (p - a)) := by
 apply ByteArray.ext
 show (s.extract a p).data = ((s.data.toList.drop a).take (p - a)).toArray
 rw [ByteArray.data_extract]
 apply Array.ext'
 rw [Array.toList_extract]
theorem take_snoc (s : ByteArray) (a p : Nat) (h : p < s.size) (ha : a ≤ p) : (s.data.toList.drop a).take (p + 1 - a) = (s.data.toList.drop a).take (p - a) ++ [s[p]'h] := by
 rw [show p + 1 - a = p - a + 1 from by omega, List.take_add_one]
 congr 1
 rw [List.getElem?_drop, show a + (p - a) = p from by omega, List.getElem?_eq_getElem (by rw [size_list]; exact h)]
 rfl

theorem cuts_list (s : ByteArray) (b : UInt8) : ∀ k p a, p + k = s.size → a ≤ p → cuts s (b.toNat : Int) k p a = (glue ((s.data.toList.drop a).take (p - a)) (cutL b (s.data.toList.drop p))).map BA := by
 intro k
 induction k with
 | zero =>
  intro p a hp ha
  rw [show s.data.toList.drop p = [] from List.drop_eq_nil_of_le (by rw [size_list]; omega)]
  show [s.extract a s.size] = [BA ((s.data.toList.drop a).take (p - a) ++ [])]
  rw [ext_list, List.append_nil, show p = s.size from by omega]
 | succ k ih =>
  intro p a hp ha
  have hlt : p < s.size := by omega
  rw [cuts, at8_eq s p hlt, drop_cons s p hlt, cutL]
  by_cases hb : s[p]'hlt = b
  ·rw [if_pos (by rw [hb]), if_pos hb, ih (p + 1) (p + 1) (by omega) (Nat.le_refl _), ext_list, Nat.sub_self, List.take_zero, glue_nil (cutL_ne _ _)]
   simp [glue]
  ·rw [if_neg (fun e => hb (UInt8.toNat_inj.1 (by omega))), if_neg hb, ih (p + 1) a (by omega) (by omega), take_snoc s a p hlt ha, glue_glue]
theorem cutV_list (s : ByteArray) (b : UInt8) : cutV s (b.toNat : Int) = (cutL b s.data.toList).map BA := by
 unfold cutV
 rw [cuts_list s b s.size 0 0 (by omega) (Nat.le_refl _), Nat.sub_self, List.take_zero, List.drop_zero, glue_nil (cutL_ne _ _)]

def blank (b : UInt8) : Bool := [32, 9].contains b
def trimL (l : List UInt8) : List UInt8 := Lib.trimS l [32, 9]
theorem trim_BA (l : List UInt8) : trim (BA l) = BA (trimL l) := rfl
/-- A line's fields. -/
def fieldsL (l : List UInt8) : List (List UInt8) :=
 if (cutL 59 (l.takeWhile (· ≠ 35))).map trimL = [[]] then [] else (cutL 59 (l.takeWhile (· ≠ 35))).map trimL
/-- What scan and close tell, as lists. -/
theorem scan_list (s : ByteArray) : ∀ k p st out, p + k = s.size → st ≤ p →
  (scan s k p st out).1 ++ [trim (s.extract (scan s k p st out).2.1 (scan s k p st out).2.2)] = out ++ (glue ((s.data.toList.drop st).take (p - st)) (cutL 59 ((s.data.toList.drop p).takeWhile (· ≠ 35)))).map (fun l => BA (trimL l)) := by
 intro k
 induction k with
 | zero =>
  intro p st out hp hst
  rw [show s.data.toList.drop p = [] from List.drop_eq_nil_of_le (by rw [size_list]; omega)]
  show out ++ [trim (s.extract st s.size)] = out ++ [BA (trimL ((s.data.toList.drop st).take (p - st) ++ []))]
  rw [ext_list, List.append_nil, show p = s.size from by omega]
  rfl
 | succ k ih =>
  intro p st out hp hst
  have hlt : p < s.size := by omega
  rw [scan, at8_eq s p hlt, drop_cons s p hlt, List.takeWhile_cons]
  by_cases h35 : s[p]'hlt = 35
  ·rw [if_pos (by rw [h35]; rfl), if_neg (by simp [h35])]
   show out ++ [trim (s.extract st p)] = out ++ [BA (trimL ((s.data.toList.drop st).take (p - st) ++ []))]
   rw [ext_list, List.append_nil]
   rfl
  ·rw [if_neg (fun e => h35 (UInt8.toNat_inj.1 (by have : (35 : UInt8).toNat = 35 := rfl; omega))), if_pos (c := decide (s[p]'hlt ≠ 35) = true) (by simp [h35]), cutL]
   by_cases h59 : s[p]'hlt = 59
   ·rw [if_pos (c := ((s[p]'hlt).toNat : Int) = 59) (by rw [h59]; rfl), if_pos h59, ih (p + 1) (p + 1) _ (by omega) (Nat.le_refl _), ext_list, Nat.sub_self, List.take_zero, glue_nil (cutL_ne _ _)]
    simp [glue, trim_BA]
   ·rw [if_neg (fun e => h59 (UInt8.toNat_inj.1 (by have : (59 : UInt8).toNat = 59 := rfl; omega))), if_neg h59, ih (p + 1) st out (by omega) (by omega), take_snoc s st p hlt hst, glue_glue]

theorem fieldsV_list (s : ByteArray) : fieldsV s = (fieldsL s.data.toList).map BA := by
 have h := scan_list s s.size 0 0 [] (by omega) (Nat.le_refl _)
 rw [Nat.sub_self, List.take_zero, List.drop_zero, glue_nil (cutL_ne _ _), List.nil_append] at h
 unfold fieldsV close fieldsL
 generalize scan s s.size 0 0 [] = X at *
 have h' : X.1 ++ [trim (s.extract X.2.1 X.2.2)] = ((cutL 59 (s.data.toList.takeWhile (· ≠ 35))).map trimL).map BA := by rw [h, List.map_map]; rfl
 generalize (cutL 59 (s.data.toList.takeWhile (· ≠ 35))).map trimL = F at *
 generalize trim (s.extract X.2.1 X.2.2) = t at *
 by_cases hF : F = [[]]
 ·rw [if_pos hF]
  rw [hF] at h'
  have h1 : X.1.length = 0 := by have := congrArg List.length h'; simp at this; simp [this]
  have h2 : t = BA [] := by rw [List.length_eq_zero_iff.1 h1] at h'; simpa using h'
  rw [if_pos ⟨h1, by rw [h2]; rfl⟩]
  rfl
 ·rw [if_neg hF, if_neg, h']
  rintro ⟨h1, h2⟩
  apply hF
  rw [List.length_eq_zero_iff.1 h1] at h'
  cases F with
  | nil => simp at h'
  | cons a F =>
   simp at h'
   obtain ⟨rfl, rfl⟩ := h'
   rw [BA_size] at h2
   rw [List.length_eq_zero_iff.1 h2]
end Go.Proofs.YtinlolmjafjhnaaGreatDoor.lin
end

section
/- strings.SplitSeq at the separator of one newline: its closure gives a text's lines, in their order, and stores into the one captured cell alone. -/
set_option linter.unusedVariables false
set_option linter.unusedSimpArgs false
namespace Go.Proofs.YtinlolmjafjhnaaGreatDoor.lin
open Go.RowKit Go.Shelf
attribute [local go_sem] Oper.semAt_some

theorem wide_depth (n : Nat) : Fence.wide.depth.isSome = true → 1 ≤ n := fun h => by simp [Fence.wide] at h

/-- The three captured variables of the closure: the text left, the separator, what is kept of it. -/
structure Caps (W : World) (c : Nat) (s : ByteArray) : Prop where
 text : Boxed W c 9 (.string s)
 sep : Boxed W (c + 1) 9 (.string ⟨#[10]⟩)
 save : Boxed W (c + 2) 3 (.int .i64 0)

theorem Caps.keep {W W' : World} {c hi : Nat} {s : ByteArray} (h : Caps W c s) (hh : c + 3 ≤ hi) (k : Keep c hi W W') : Caps W' c s :=
 ⟨(k c (by omega) (by omega)).trans h.text, (k (c + 1) (by omega) (by omega)).trans h.sep, (k (c + 2) (by omega) (by omega)).trans h.save⟩

theorem SplitSeq_any (s : ByteArray) (w : World) :
  Calls Tryz.prog 77 #[.string s, .string ⟨#[10]⟩] w fun e w' => e = .returned (.func (.func 157) #[] #[.pointer (some ⟨w.heap.size + 1, 0, none⟩), .pointer (some ⟨w.heap.size, 0, none⟩), .pointer (some ⟨w.heap.size + 2, 0, none⟩)]) ∧
   w' = ((w.alloc (.cells #[.string s] 9)).alloc (.cells #[.string ⟨#[10]⟩] 9)).alloc (.cells #[.int .i64 0] 3) := by
 have SP : Calls Tryz.prog 113 #[.string s, .string ⟨#[10]⟩, .int .i64 0] w fun e w' => e = .returned (.func (.func 157) #[] #[.pointer (some ⟨w.heap.size + 1, 0, none⟩), .pointer (some ⟨w.heap.size, 0, none⟩), .pointer (some ⟨w.heap.size + 2, 0, none⟩)]) ∧
   w' = ((w.alloc (.cells #[.string s] 9)).alloc (.cells #[.string ⟨#[10]⟩] 9)).alloc (.cells #[.int .i64 0] 3) := by
  go_enter Tryz.func113, Tryz.ntmps113
  go_wp2
  go_ret
  exact ⟨rfl, rfl⟩
 go_enter Tryz.func77, Tryz.ntmps77
 go_wp2_with (go_at_call 113; refine SP.mono ?_; rintro e w' ⟨rfl, rfl⟩)
 go_ret
 exact ⟨rfl, rfl⟩

set_option maxHeartbeats 1000000 in
theorem split_gives (n c : Nat) (s : ByteArray) (w : World) (hs : s.size ≤ 1099511627776) (hcap : Caps w c s) :
  Gives n Tryz.prog 157 #[.pointer (some ⟨c + 1, 0, none⟩), .pointer (some ⟨c, 0, none⟩), .pointer (some ⟨c + 2, 0, none⟩)] (fun x => #[.string x]) (cutV s 10) c c w.heap.size w := by
 intro l J Jx W hW hJ hY h0
 have hlt := hcap.save.lt
 have hcW : Caps W c s := ⟨(hW.block c (by omega)).trans hcap.text, (hW.block (c + 1) (by omega)).trans hcap.sep, (hW.block (c + 2) hlt).trans hcap.save⟩
 refine callsIn_of_wp Tryz.func157 rfl trivial ?_ rfl
 simp only [Tryz.ntmps157, List.size_toArray, List.length_cons, List.length_nil, Nat.reduceAdd, Nat.reduceSub, Array.replicate_succ, Array.replicate_zero, List.push_toArray, List.append_toArray, List.nil_append, List.cons_append]
 have c1 := hcW.sep.cell
 gi_wp2
 clear c1
 gi_loopg [7] s.size (fun k v wr => ∃ (a : Nat) (pre : List ByteArray), k = s.size - a ∧ a ≤ s.size ∧ Hid (pre ++ cuts s 10 (s.size - a) a a = cutV s 10) ∧ Caps wr c (s.extract a s.size) ∧ J pre wr)
 case atStart => exact ⟨0, [], by omega, Nat.zero_le _, rfl, by rw [show s.extract 0 s.size = s from by simp]; exact hcW, h0⟩
 case round =>
  obtain ⟨a, pre, hgk, ha, HX, hcr, hj⟩ := hrel
  have c0 := hcr.text.cell
  have c1 := hcr.sep.cell
  have c2 := hcr.save.cell
  have IX := Tryz.strings_Index_one (s.extract a s.size) 10 wr
  rcases (show Lib.indexByte (s.extract a s.size).data.toList 10 = -1 ∨ ∃ o : Nat, Lib.indexByte (s.extract a s.size).data.toList 10 = o from by
   have := Lib.indexByte_ge (s.extract a s.size).data.toList 10
   rcases (show Lib.indexByte (s.extract a s.size).data.toList 10 = -1 ∨ 0 ≤ Lib.indexByte (s.extract a s.size).data.toList 10 from by omega) with h | h
   ·exact .inl h
   ·exact .inr ⟨_, (Int.toNat_of_nonneg h).symm⟩) with hi | ⟨o, hi⟩
  ·have hr := rest_none s a ha hi
   rw [hi] at IX
   have HX2 : cutV s 10 = pre ++ [s.extract a s.size] := by rw [← HX.out, hr]
   obtain ⟨fn, tmps, assign, body, hy, hR⟩ := hY pre (s.extract a s.size) [] wr HX2 hj
   clear HX hr hi
   have HX3 : Hid (cutV s 10 = pre ++ [s.extract a s.size]) := HX2
   clear HX2
   generalize s.extract a s.size = R at *
   gi_wp2
   refine ⟨trivial, wide_depth _, (callsIn_wide.2 IX).mono ?_⟩
   rintro e w' ⟨rfl, rfl⟩
   gi_wp2
   refine ⟨wide_depth _, hR.mono ?_⟩
   rintro e W3 (⟨rfl, hJ3, hk3⟩ | ⟨rfl, hJx3⟩)
   ·gi_wp2
    go_end0
    exact ⟨⟨_, rfl⟩, .inl (by rw [HX3.out]; exact hJ3)⟩
   ·gi_wp2
    go_end0
    exact ⟨⟨_, rfl⟩, .inr ⟨_, hJx3⟩⟩
  ·obtain ⟨hao, hr⟩ := rest_some s a o ha hi
   rw [hi] at IX
   have HX2 : cutV s 10 = pre ++ s.extract a (a + o) :: cuts s 10 (s.size - (a + o + 1)) (a + o + 1) (a + o + 1) := by rw [← HX.out, hr]
   obtain ⟨fn, tmps, assign, body, hy, hR⟩ := hY pre (s.extract a (a + o)) _ wr HX2 hj
   clear HX hr hi
   have HX3 : Hid (cutV s 10 = pre ++ s.extract a (a + o) :: cuts s 10 (s.size - (a + o + 1)) (a + o + 1) (a + o + 1)) := HX2
   clear HX2
   have e1 := ext_first s a o (by omega)
   have e2 := ext_last s a (o + 1) ha
   have hz : (s.extract a s.size).size = s.size - a := by rw [ByteArray.size_extract]; omega
   generalize s.extract a s.size = R at *
   generalize s.extract a (a + o) = X at *
   gi_wp2
   refine ⟨trivial, wide_depth _, (callsIn_wide.2 IX).mono ?_⟩
   rintro e w' ⟨rfl, rfl⟩
   gi_wp2
   refine ⟨wide_depth _, hR.mono ?_⟩
   rintro e W3 (⟨rfl, hJ3, hk3⟩ | ⟨rfl, hJx3⟩)
   ·have hc3 := hcr.keep hlt hk3
    have d0 := hc3.text.cell
    have d1 := hc3.sep.cell
    have d2 := hc3.save.cell
    have f0 := hc3.text.frozen
    gi_wp2
    gi_roundg (s.size - (a + (o + 1)))
    case measure => omega
    case rel => exact ⟨a + (o + 1), pre ++ [X], rfl, by omega, by rw [HX3.out]; simp [Hid, Nat.add_assoc], ⟨by rw [← e2, hz]; exact hc3.text.set _, hc3.sep.other (by omega) _, hc3.save.other (by omega) _⟩, hJ _ _ _ hJ3 (grownBy_setCell' _ _ _)⟩
   ·gi_wp2
    refine bodyPost_ret (results_none rfl _ _ _) rfl ?_
    exact ⟨⟨_, rfl⟩, .inr ⟨_, hJx3⟩⟩
end Go.Proofs.YtinlolmjafjhnaaGreatDoor.lin
end

section
/- What lines.Parse answers of any text: its records, or the first line that can't be. -/
set_option linter.unusedVariables false
set_option linter.unusedSimpArgs false
namespace Go.Proofs.YtinlolmjafjhnaaGreatDoor.lin
open Go.RowKit Go.Shelf
attribute [local go_sem] Oper.semAt_some

theorem infoRec3 : (Tryz.prog.info? 98).map (fun i => (i.zero, i.size, i.bytes)) = some (some (.agg #[.int .i64 0, .int .i64 0, .slice none 0 0]), 3, 40) := by kernel_rfl

/-- Between two rounds: what the variables of Parse hold; B: the heap's size ahead of the call. -/
structure PI (w0 : World) (m : Int) (pre : List ByteArray) (W : World) : Prop where
 ok : ∀ x ∈ pre, lineOk x = true
 r0 : Boxed W w0.heap.size 67 (.slice none 0 0)
 r1 : Boxed W (w0.heap.size + 1) 3 (.int .i64 0)
 r2 : Boxed W (w0.heap.size + 2) 45 (.int .i64 0)
 out : ∃ v, Boxed W (w0.heap.size + 3) 67 v ∧ Recs W (w0.heap.size + 10) v (recsOf pre)
 num : Boxed W (w0.heap.size + 4) 3 (.int .i64 pre.length)
 low : Below w0.heap.size w0 W
 max : W.cell? ⟨6, 0, none⟩ = some (.int .i64 m)

/-- A round has returned: a line that can't be. -/
structure PX (s : ByteArray) (w0 : World) (pre : List ByteArray) (W : World) : Prop where
 bad : ∃ p x rest, pre = p ++ [x] ∧ cutV s 10 = p ++ x :: rest ∧ (∀ y ∈ p, lineOk y = true) ∧ lineOk x = false
 r0 : Boxed W w0.heap.size 67 (.slice none 0 0)
 r1 : Boxed W (w0.heap.size + 1) 3 (.int .i64 pre.length)
 r2 : Boxed W (w0.heap.size + 2) 45 (.int .i64 20)
 low : Below w0.heap.size w0 W

theorem PI.turns {w0 : World} {m : Int} {pre : List ByteArray} {A B : World} {D : Nat → Prop} (h : PI w0 m pre A) (hm : 6 < w0.heap.size) (t : Turns D A B) (hd : ∀ k, D k → w0.heap.size + 5 ≤ k ∧ k < w0.heap.size + 10) : PI w0 m pre B := by
 obtain ⟨v, hv, hr⟩ := h.out
 have low : Below w0.heap.size w0 B := h.low.trans (t.below h.low.size (fun k d => by have := hd k d; omega))
 refine ⟨h.ok, t.boxed h.r0 (fun d => by have := hd _ d; omega), t.boxed h.r1 (fun d => by have := hd _ d; omega), t.boxed h.r2 (fun d => by have := hd _ d; omega), ⟨v, t.boxed hv (fun d => by have := hd _ d; omega), hr.turns t (fun k d => (hd k d).2)⟩, t.boxed h.num (fun d => by have := hd _ d; omega), low, ?_⟩
 rw [low.cell (p := ⟨6, 0, none⟩) hm, ← h.low.cell (p := ⟨6, 0, none⟩) hm]; exact h.max
theorem PX.turns {s : ByteArray} {w0 : World} {pre : List ByteArray} {A B : World} {D : Nat → Prop} (h : PX s w0 pre A) (t : Turns D A B) (hd : ∀ k, D k → w0.heap.size + 5 ≤ k ∧ k < w0.heap.size + 10) : PX s w0 pre B :=
 ⟨h.bad, t.boxed h.r0 (fun d => by have := hd _ d; omega), t.boxed h.r1 (fun d => by have := hd _ d; omega), t.boxed h.r2 (fun d => by have := hd _ d; omega), h.low.trans (t.below h.low.size (fun k d => by have := hd k d; omega))⟩

theorem PI.step {w0 : World} {m : Int} {pre pre' : List ByteArray} {A B : World} {D : Nat → Prop} (h : PI w0 m pre A) (hm : 6 < w0.heap.size) (t : Turns D A B) (hd : ∀ k, D k → k = w0.heap.size + 3 ∨ k = w0.heap.size + 4 ∨ w0.heap.size + 10 ≤ k)
  (ok : ∀ x ∈ pre', lineOk x = true) (out : ∃ v, Boxed B (w0.heap.size + 3) 67 v ∧ Recs B (w0.heap.size + 10) v (recsOf pre')) (num : Boxed B (w0.heap.size + 4) 3 (.int .i64 pre'.length)) : PI w0 m pre' B := by
 have low : Below w0.heap.size w0 B := h.low.trans (t.below h.low.size (fun k d => by have := hd k d; omega))
 refine ⟨ok, t.boxed h.r0 (fun d => by have := hd _ d; omega), t.boxed h.r1 (fun d => by have := hd _ d; omega), t.boxed h.r2 (fun d => by have := hd _ d; omega), out, num, low, ?_⟩
 rw [low.cell (p := ⟨6, 0, none⟩) hm, ← h.low.cell (p := ⟨6, 0, none⟩) hm]; exact h.max

theorem eight (w : World) (A0 A1 A2 A3 A4 A5 A6 A7 : Obj) {W : World} (hW : W = (((((((w.alloc A0).alloc A1).alloc A2).alloc A3).alloc A4).alloc A5).alloc A6).alloc A7) :
  W.heap.size = w.heap.size + 8 ∧ Below w.heap.size w W ∧ W.heap[w.heap.size]? = some A0 ∧ W.heap[w.heap.size + 1]? = some A1 ∧ W.heap[w.heap.size + 2]? = some A2 ∧ W.heap[w.heap.size + 3]? = some A3 ∧
  W.heap[w.heap.size + 4]? = some A4 ∧ W.heap[w.heap.size + 5]? = some A5 ∧ W.heap[w.heap.size + 6]? = some A6 ∧ W.heap[w.heap.size + 7]? = some A7 := by
 have old : ∀ (V : World) (o o' : Obj) (k : Nat), V.heap[k]? = some o → (V.alloc o').heap[k]? = some o := fun V o o' k h => (Below.heap_alloc V o' k (Array.getElem?_eq_some_iff.1 h).1).trans h
 have new : ∀ (V : World) (o : Obj) (k : Nat), V.heap.size = k → (V.alloc o).heap[k]? = some o := fun V o k h => by rw [← h]; exact World.alloc_heap_new V o
 subst hW
 refine ⟨by simp, ?_, ?_, ?_, ?_, ?_, ?_, ?_, ?_, ?_⟩
 ·exact ((((((((Below.refl _ w).alloc (Nat.le_refl _) _).alloc (by simp) _).alloc (by simp; omega) _).alloc (by simp; omega) _).alloc (by simp; omega) _).alloc (by simp; omega) _).alloc (by simp; omega) _).alloc (by simp; omega) _
 ·exact old _ _ _ _ (old _ _ _ _ (old _ _ _ _ (old _ _ _ _ (old _ _ _ _ (old _ _ _ _ (old _ _ _ _ (new _ _ _ rfl)))))))
 ·exact old _ _ _ _ (old _ _ _ _ (old _ _ _ _ (old _ _ _ _ (old _ _ _ _ (old _ _ _ _ (new _ _ _ (by simp)))))))
 ·exact old _ _ _ _ (old _ _ _ _ (old _ _ _ _ (old _ _ _ _ (old _ _ _ _ (new _ _ _ (by simp))))))
 ·exact old _ _ _ _ (old _ _ _ _ (old _ _ _ _ (old _ _ _ _ (new _ _ _ (by simp)))))
 ·exact old _ _ _ _ (old _ _ _ _ (old _ _ _ _ (new _ _ _ (by simp))))
 ·exact old _ _ _ _ (old _ _ _ _ (new _ _ _ (by simp)))
 ·exact old _ _ _ _ (new _ _ _ (by simp))
 ·exact new _ _ _ (by simp)

theorem cell3_new (W : World) (n : Nat) (hn : n = W.heap.size) (t : TypeId) (a b c : Value) : ∀ j u, [a, b, c][j]? = some u → (W.alloc (.cells #[a, b, c] t)).cell? ((⟨n, 0, none⟩ : Addr).add j) = some u := by
 subst hn
 intro j u h
 have hh : (W.alloc (.cells #[a, b, c] t)).heap[W.heap.size]? = some (.cells #[a, b, c] t) := World.alloc_heap_new W _
 rw [show ((⟨W.heap.size, 0, none⟩ : Addr).add j) = ⟨W.heap.size, j, none⟩ from by simp [Addr.add]; omega, cell_of_row _ _ j #[a, b, c] _ _ hh]
 simpa using h

theorem parseV_ok {s : ByteArray} (h : ∀ x ∈ cutV s 10, lineOk x = true) : parseV s = (recsOf (cutV s 10), 0, 0) := by
 unfold parseV
 rw [if_pos (List.all_eq_true.2 h)]
theorem findIdx_at {α : Type} (q : α → Bool) (x : α) (rest : List α) (hx : q x = true) : ∀ p : List α, (∀ y ∈ p, q y = false) → (p ++ x :: rest).findIdx q = p.length := by
 intro p
 induction p with
 | nil => intro _; simp [List.findIdx_cons, hx]
 | cons y p ih =>
  intro h
  rw [List.cons_append, List.findIdx_cons, h y (by simp), ih (fun z hz => h z (by simp [hz]))]
  rfl
theorem parseV_bad {s : ByteArray} {p rest : List ByteArray} {x : ByteArray} (hc : cutV s 10 = p ++ x :: rest) (hp : ∀ y ∈ p, lineOk y = true) (hx : lineOk x = false) : parseV s = ([], p.length + 1, 20) := by
 unfold parseV
 rw [hc, if_neg, findIdx_at _ x rest (by simp [hx]) p (fun y hy => by simp [hp y hy])]
 intro h
 have := List.all_eq_true.1 h x (by simp)
 rw [hx] at this
 cases this

set_option maxRecDepth 100000 in
set_option maxHeartbeats 2000000 in
theorem parse_any (s : ByteArray) (w : World) (m : Int) (hs : s.size ≤ 1073741824) (hm : w.cell? ⟨6, 0, none⟩ = some (.int .i64 m)) (hm2 : 6 < w.heap.size) :
  Calls Tryz.prog 55 #[.string s] w fun e w' => ∃ v, e = .returned (.tuple #[v, .int .i64 (parseV s).2.1, .int .i64 (parseV s).2.2]) ∧ Recs w' (w.heap.size + 10) v (parseV s).1 ∧ Below w.heap.size w w' := by
 obtain ⟨i0, hi, hz0, hy1, hz2⟩ := info_parts infoRec3
 refine callsIn_wide (n := 9) |>.1 ?_
 refine callsIn_of_wp_marks Tryz.func55 rfl trivial ?_ rfl
 simp only [Tryz.ntmps55, List.size_toArray, List.length_cons, List.length_nil, Nat.reduceAdd, Nat.reduceSub, Array.replicate_succ, Array.replicate_zero, List.push_toArray, List.append_toArray, List.nil_append, List.cons_append]
 gi_wp2
 refine ⟨trivial, (callsIn_wide.2 (SplitSeq_any s _)).mono ?_⟩
 rintro e w' ⟨rfl, hw'⟩
 simp only [World.size_alloc, Nat.add_assoc, Nat.reduceAdd] at hw' ⊢
 gi_wp2
 obtain ⟨hsz, hB, b0, b1, b2, b3, b4, b5, b6, b7⟩ := eight w _ _ _ _ _ _ _ _ hw'
 clear hw'
 have hmax : w'.cell? ⟨6, 0, none⟩ = some (.int .i64 m) := (hB.cell (p := ⟨6, 0, none⟩) hm2).trans hm
 refine range_own (c := w.heap.size + 5) (lo := w.heap.size + 5) rfl (enters_of Tryz.func157 (by kernel_rfl) rfl) (by omega) (by omega) (split_gives _ (w.heap.size + 5) s w' (by omega) ⟨b5, b6, b7⟩) (fun _ => rfl)
  (PI w m) (PX s w) (fun _ A B h t => h.turns hm2 t (fun k d => by omega)) (fun _ A B h t => h.turns t (fun k d => by omega))
  ⟨fun _ h => (by cases h), b0, b1, b2, ⟨_, b3, Recs.nil _ _⟩, b4, hB, hmax⟩
  (fun x => { tmps := #[.string s, undef, .pointer (some ⟨w.heap.size, 0, none⟩), .pointer (some ⟨w.heap.size + 1, 0, none⟩), .pointer (some ⟨w.heap.size + 2, 0, none⟩), .pointer (some ⟨w.heap.size + 3, 0, none⟩), .pointer (some ⟨w.heap.size + 4, 0, none⟩), .string x, undef, undef, undef, .string s,
   .func (.func 157) #[] #[.pointer (some ⟨w.heap.size + 6, 0, none⟩), .pointer (some ⟨w.heap.size + 5, 0, none⟩), .pointer (some ⟨w.heap.size + 7, 0, none⟩)], .string x, undef, undef, undef, undef, undef, undef, undef, undef, undef, undef, undef, undef, undef, undef, undef, undef, undef, undef, undef, undef], defers := [] }) ?assign ?body ?done ?stop
 case assign =>
  intro l x W K hK
  gi_wp2
  exact hK
 case body =>
  intro l pre x rest W hx hI hge
  have hxm : x ∈ cutV s 10 := by rw [hx]; simp
  have hxs : x.size ≤ s.size := cuts_size _ _ _ _ _ x hxm
  have hpl : pre.length ≤ s.size := by
   have h1 := cuts_len s 10 s.size 0 0
   have h2 : (cutV s 10).length = pre.length + (rest.length + 1) := by rw [hx]; simp
   unfold cutV at h2
   omega
  obtain ⟨v, hv, hrec⟩ := hI.out
  have cn := hI.num.cell
  have fn := hI.num.frozen
  gi_wp2
  refine ⟨trivial, (CallsIn.inRound l (callsIn_wide.2 (fields_any x _ (by omega)))).mono ?_⟩
  rintro e W2 ⟨fv, rfl, hown, hbel⟩
  have tn : Turns (fun k => k = w.heap.size + 4) W W2 := (Turns.set (D := fun k => k = w.heap.size + 4) (Turns.refl _ W) (w.heap.size + 4) _ rfl).trans (.of_below hbel)
  have t2 : Turns (fun k => k = w.heap.size + 3 ∨ k = w.heap.size + 4 ∨ w.heap.size + 10 ≤ k) W W2 := tn.mono (fun k h => .inr (.inl h))
  have num2 : Boxed W2 (w.heap.size + 4) 3 (.int .i64 ((pre ++ [x]).length : Nat)) := by
   have h1 := hI.num.set (.int .i64 ((pre.length : Int) + 1))
   have h2 := (hbel.block _ h1.lt).trans h1
   simpa [Boxed] using h2
  have hsz1 : (W.setCell ⟨w.heap.size + 4, 0, none⟩ (.int .i64 ((pre.length : Int) + 1))).heap.size = W.heap.size := by simp
  rw [hsz1] at hown
  have hs2 := t2.size
  have hv2 := tn.boxed hv (by omega)
  have hrec2 := hrec.turns tn (fun k h => by omega)
  have HK2 : Hid (Keep (w.heap.size + 5) (w'.heap.size + 2) W W2) := tn.keep hge (fun k h => .inl (by omega))
  clear cn fn
  cases hfs : fieldsV x with
  | nil =>
   rw [hfs] at hown
   obtain ⟨sa, sc, rfl⟩ := own_slice hown
   have HG : Hid (PI w m (pre ++ [x]) W2) := by
    refine hI.step hm2 t2 (fun k d => d) ?_ ⟨v, ?_, ?_⟩ num2
    ·intro y hy
     rcases List.mem_append.1 hy with hy | hy
     ·exact hI.ok y hy
     ·obtain rfl := List.mem_singleton.1 hy
      unfold lineOk; rw [hfs]; rfl
    ·exact hv2
    ·rw [recsOf_snoc, show lineRecs x = [] from by unfold lineRecs; rw [hfs]; rfl, List.append_nil]; exact hrec2
   gi_wp2
   exact ⟨HK2.out, HG.out⟩
  | cons f fs =>
   rw [hfs] at hown
   obtain ⟨g, cap, rfl⟩ := ownsRow_succ hown
   rcases hown.2 with ⟨_, h0⟩ | ⟨g', cap', cur, hge', hg1, hg2, hg3, hg4, hg5, hg6⟩
   ·simp at h0
   cases hge'
   have hsf := fields_sizes x
   rw [hfs] at hsf
   have hf0 : f.size ≤ 1073741824 := by have := hsf f (by simp); omega
   have hfl := fields_len x
   rw [hfs] at hfl
   have hcur : cur.toList.take (fs.length + 1) = (f :: fs).map Value.string := by have := hg6; simp at this ⊢; exact this
   have hcell : ∀ j, j < fs.length + 1 → cur[j]? = some (.string ((f :: fs).getD j ByteArray.empty)) := by
    intro j hj
    have h1 : (cur.toList.take (fs.length + 1))[j]? = ((f :: fs).map Value.string)[j]? := by rw [hcur]
    rw [List.getElem?_take_of_lt hj, Array.getElem?_toList] at h1
    rw [h1, List.getElem?_map, List.getD_eq_getElem?_getD]
    rw [List.getElem?_eq_getElem (by simpa using hj)]
    rfl
   have hc0 : W2.cell? ⟨g, 0, none⟩ = some (.string f) := by rw [cell_of_row W2 g 0 cur _ _ hg2]; exact hcell 0 (by omega)
   have hgl : g < W2.heap.size := (Array.getElem?_eq_some_iff.1 hg2).1
   have low2 : Below w.heap.size w W2 := hI.low.trans (t2.below hI.low.size (fun k d => by omega))
   have hmx2 : W2.cell? ⟨6, 0, none⟩ = some (.int .i64 m) := (low2.cell (p := ⟨6, 0, none⟩) hm2).trans hm
   have RO := record_any f fs g cap W2 m hc0 hf0 (by simpa using hg3) hg4 hmx2 (by have := low2.size; omega) hgl
   clear hown hcur hc0 hmx2
   gi_wp2
   refine ⟨trivial, (CallsIn.inRound l (callsIn_wide.2 RO)).mono ?_⟩
   rintro e W3 ⟨rfl, hb3⟩
   clear RO
   cases hrb : recB (f :: fs) with
   | false =>
    rw [show recAgg (f :: fs) g cap = .agg #[.int .i64 0, .int .i64 0, .slice none 0 0] from by unfold recAgg; rw [hrb]; rfl]
    have t3 : Turns (fun k => k = w.heap.size + 4) W W3 := tn.trans (.of_below hb3)
    have num3 : Boxed W3 (w.heap.size + 4) 3 (.int .i64 ((pre ++ [x]).length : Nat)) := (hb3.block _ num2.lt).trans num2
    have q0 := t3.boxed hI.r0 (by omega)
    have q1 := t3.boxed hI.r1 (by omega)
    have q2 := t3.boxed hI.r2 (by omega)
    have cnum : ∀ o, (W3.alloc o).cell? ⟨w.heap.size + 4, 0, none⟩ = some (.int .i64 ((pre ++ [x]).length : Nat)) := fun o => (num3.alloc o).cell
    have f0 : ∀ o, (W3.alloc o).frozen? ⟨w.heap.size, 0, none⟩ = false := fun o => (q0.alloc o).frozen
    have c0 : ∀ o, (W3.alloc o).cell? ⟨w.heap.size, 0, none⟩ = some (.slice none 0 0) := fun o => (q0.alloc o).cell
    have c1 : ∀ o, (W3.alloc o).cell? ⟨w.heap.size + 1, 0, none⟩ = some (.int .i64 0) := fun o => (q1.alloc o).cell
    have c2 : ∀ o, (W3.alloc o).cell? ⟨w.heap.size + 2, 0, none⟩ = some (.int .i64 0) := fun o => (q2.alloc o).cell
    have f1 : ∀ o, (W3.alloc o).frozen? ⟨w.heap.size + 1, 0, none⟩ = false := fun o => (q1.alloc o).frozen
    have f2 : ∀ o, (W3.alloc o).frozen? ⟨w.heap.size + 2, 0, none⟩ = false := fun o => (q2.alloc o).frozen
    have HX : Hid (∀ o, Keep (w.heap.size + 5) (w'.heap.size + 2) W ((((W3.alloc o).setCell ⟨w.heap.size, 0, none⟩ (.slice none 0 0)).setCell ⟨w.heap.size + 1, 0, none⟩ (.int .i64 ((pre.length : Int) + 1))).setCell ⟨w.heap.size + 2, 0, none⟩ (.int .i64 20)).drew ∧
      PX s w (pre ++ [x]) ((((W3.alloc o).setCell ⟨w.heap.size, 0, none⟩ (.slice none 0 0)).setCell ⟨w.heap.size + 1, 0, none⟩ (.int .i64 ((pre.length : Int) + 1))).setCell ⟨w.heap.size + 2, 0, none⟩ (.int .i64 20)).drew) := by
     intro o
     have t4 : Turns (fun k => k = w.heap.size ∨ k = w.heap.size + 1 ∨ k = w.heap.size + 2 ∨ k = w.heap.size + 4) W ((((W3.alloc o).setCell ⟨w.heap.size, 0, none⟩ (.slice none 0 0)).setCell ⟨w.heap.size + 1, 0, none⟩ (.int .i64 ((pre.length : Int) + 1))).setCell ⟨w.heap.size + 2, 0, none⟩ (.int .i64 20)).drew :=
      (((((t3.mono (fun k h => .inr (.inr (.inr h)))).alloc o).set w.heap.size _ (.inl rfl)).set (w.heap.size + 1) _ (.inr (.inl rfl))).set (w.heap.size + 2) _ (.inr (.inr (.inl rfl)))).drew
     have p0 := ((((q0.alloc o).set (.slice none 0 0)).other (B' := w.heap.size + 1) (by omega) (.int .i64 ((pre.length : Int) + 1))).other (B' := w.heap.size + 2) (by omega) (.int .i64 20))
     have p1 := ((((q1.alloc o).other (B' := w.heap.size) (by omega) (.slice none 0 0)).set (.int .i64 ((pre.length : Int) + 1))).other (B' := w.heap.size + 2) (by omega) (.int .i64 20))
     have p2 := ((((q2.alloc o).other (B' := w.heap.size) (by omega) (.slice none 0 0)).other (B' := w.heap.size + 1) (by omega) (.int .i64 ((pre.length : Int) + 1))).set (.int .i64 20))
     refine ⟨t4.keep hge (fun k h => .inl (by omega)), ⟨⟨pre, x, rest, rfl, hx, hI.ok, ?_⟩, p0, ?_, p2, hI.low.trans (t4.below hI.low.size (fun k h => by omega))⟩⟩
     ·unfold lineOk; rw [hfs, hrb]; rfl
     ·have e : (((pre ++ [x]).length : Nat) : Int) = (pre.length : Int) + 1 := by simp
      rw [e]; exact p1
    clear hfs hcell hI hv hrec hbel hv2 hrec2 hxm hx hb3 hg2 low2
    gi_wp2
    gi_region
    all_goals gi_wp2
    all_goals exact HX.out _
   | true =>
    rw [show recAgg (f :: fs) g cap = .agg #[.int .i64 (boundsLo f), .int .i64 (boundsHi f), .slice (some ⟨g, 1, none⟩) fs.length (cap - 1)] from by unfold recAgg; rw [hrb]; rfl]
    obtain ⟨L, hL, ho, hf⟩ := hrec2
    have t3 : Turns (fun k => k = w.heap.size + 4) W W3 := tn.trans (.of_below hb3)
    have hLl : L.length ≤ pre.length := by
     have := recsOf_len pre
     rw [← hL] at this
     simpa using this
    have ho3 := own_below ho hb3
    have HOW : Hid (∀ k, v.ownBlock = some k → w.heap.size + 10 ≤ k ∧ ∃ cur, W2.heap[k]? = some (.cells cur 98 (0, 0))) := by
     intro k e
     refine ⟨(ho.lt k e).1, ?_⟩
     rcases ho.2 with hn | ⟨g', cap', cur', hv', h1, h2, _⟩
     ·rw [hn.1] at e; cases e
     ·rw [hv'] at e; cases e; exact ⟨_, h2⟩
    obtain ⟨va, vc, rfl⟩ := own_slice ho
    have v3 : Boxed W3 (w.heap.size + 3) 67 (.slice va L.length vc) := (hb3.block _ hv2.lt).trans hv2
    have cv : ∀ o, (W3.alloc o).cell? ⟨w.heap.size + 3, 0, none⟩ = some (.slice va L.length vc) := fun o => (v3.alloc o).cell
    have hsb := hb3.size
    have HFF : Hid (∀ q ∈ L, FAt W2 (w.heap.size + 10) q.fv q.fs) := hf
    have HL : Hid (L.map RR.plain = recsOf pre) := hL
    have HO3 : Hid (W3.ownsRow (w.heap.size + 10) 98 3 (.slice va L.length vc) L.length (flatR L)) := ho3
    have HCE : Hid (∀ j, j < fs.length + 1 → cur[j]? = some (Value.string ((f :: fs).getD j ByteArray.empty))) := hcell
    clear hL ho hf ho3 hcell hv hrec hbel hxm hsf low2
    gi_wp2_with (gi_at_builtin; refine wpListIn_append_own _ rfl _ _ 67 rfl (w.heap.size + 10) 98 i0 (.agg #[.int .i64 0, .int .i64 0, .slice none 0 0]) 3 40 Tryz.underlying67 hi hz0 hy1 hz2 rfl (by decide) _ _ _ rfl ((HO3.out.alloc _).alloc _) ⟨W3.heap.size + 1, 0, none⟩ 1 1 [.int .i64 (boundsLo f), .int .i64 (boundsHi f), .slice (some ⟨g, 1, none⟩) fs.length (cap - 1)] rfl rfl (cell3_new _ _ (by simp) _ _ _ _) (by simp [Value.oneCell']) (by unfold maxLen; omega) (by omega) (by simp; omega) ?_)
    intro v' w4 hown4 hgrow _
    obtain ⟨va', vc', rfl⟩ := own_slice hown4
    have HR : Hid (Keep (w.heap.size + 5) (w'.heap.size + 2) W (w4.setCell ⟨w.heap.size + 3, 0, none⟩ (.slice va' (L.length + 1) vc')) ∧ PI w m (pre ++ [x]) (w4.setCell ⟨w.heap.size + 3, 0, none⟩ (.slice va' (L.length + 1) vc'))) := by
     have ta : Turns (fun k => k = w.heap.size + 3 ∨ (w.heap.size + 10 ≤ k ∧ ∃ cur, W2.heap[k]? = some (.cells cur 98 (0, 0)))) W2 (w4.setCell ⟨w.heap.size + 3, 0, none⟩ (.slice va' (L.length + 1) vc')) :=
      (((((Turns.of_below hb3).alloc _).alloc _).trans (.of_grown hgrow (fun k e => .inr (HOW.out k e)))).set (w.heap.size + 3) _ (.inl rfl))
     have t5 : Turns (fun k => k = w.heap.size + 3 ∨ k = w.heap.size + 4 ∨ w.heap.size + 10 ≤ k) W (w4.setCell ⟨w.heap.size + 3, 0, none⟩ (.slice va' (L.length + 1) vc')) :=
      t2.trans (ta.mono (fun k h => h.elim .inl (fun h => .inr (.inr h.1))))
     have v4 : Boxed w4 (w.heap.size + 3) 67 (.slice va L.length vc) := ((v3.alloc _).alloc _).kept hgrow (fun e => by have := (HOW.out _ e.symm).1; omega)
     refine ⟨t5.keep hge (fun k h => by omega), hI.step hm2 t5 (fun k d => d) ?_ ⟨_, v4.set _, L ++ [⟨boundsLo f, boundsHi f, .slice (some ⟨g, 1, none⟩) fs.length (cap - 1), fs⟩], ?_, ?_, ?_⟩ ?_⟩
     ·intro y hy
      rcases List.mem_append.1 hy with hy | hy
      ·exact hI.ok y hy
      ·obtain rfl := List.mem_singleton.1 hy
       unfold lineOk; rw [hfs, hrb]; rfl
     ·rw [recsOf_snoc, show lineRecs x = [recV (f :: fs)] from by unfold lineRecs; rw [hfs]; rfl, List.map_append, HL.out]
      rfl
     ·rw [List.length_append, flatR_append]
      exact (Turns.set (D := fun k => k = w.heap.size + 3) (Turns.refl _ w4) (w.heap.size + 3) _ rfl).own hown4 (fun k e d => by have := (hown4.lt k e).1; omega)
     ·intro q hq
      rcases List.mem_append.1 hq with hq | hq
      ·exact (HFF.out q hq).turns ta (fun k d => d.elim (fun h => .inl (by omega)) (fun h => .inr h.2))
      ·obtain rfl := List.mem_singleton.1 hq
       refine ⟨g, 1, cap - 1, cur, rfl, by omega, (ta.block g hgl ?_).trans hg2, ?_⟩
       ·rintro (h | ⟨_, cur', h⟩)
        ·omega
        ·rw [hg2] at h; cases h
       ·intro j hj
        have hj' : j < fs.length := hj
        have := HCE.out (j + 1) (by omega)
        rw [Nat.add_comm 1 j, this]
        rfl
     ·exact ta.boxed num2 (by rintro (h | ⟨h, _⟩) <;> omega)
    have c4 : w4.cell? ⟨w.heap.size + 3, 0, none⟩ = some (.slice va L.length vc) := (((v3.alloc _).alloc _).kept hgrow (fun e => by have := (HOW.out _ e.symm).1; omega)).cell
    have f4 : w4.frozen? ⟨w.heap.size + 3, 0, none⟩ = false := (((v3.alloc _).alloc _).kept hgrow (fun e => by have := (HOW.out _ e.symm).1; omega)).frozen
    clear hgrow hown4 hI
    rw [hsz] at HR
    gi_wp2
    exact HR.out
 case done =>
  intro W hI hd
  obtain ⟨v, hv, hr⟩ := hI.out
  obtain ⟨va, vc, rfl⟩ : ∃ va vc, v = .slice va (recsOf (cutV s 10)).length vc := by
   obtain ⟨L, hL, ho, _⟩ := hr
   rw [← hL, List.length_map]
   exact own_slice ho
  have HV : Hid (parseV s = (recsOf (cutV s 10), 0, 0)) := parseV_ok hI.ok
  have HT : Hid (∀ V, Turns (fun k => k = w.heap.size ∨ k = w.heap.size + 1 ∨ k = w.heap.size + 2 ∨ k = w.heap.size + 8) W V → Recs V (w.heap.size + 10) (.slice va (recsOf (cutV s 10)).length vc) (recsOf (cutV s 10)) ∧ Below w.heap.size w V) := fun V t => ⟨hr.turns t (fun k d => by omega), hI.low.trans (t.below hI.low.size (fun k d => by omega))⟩
  have c3 := hv.cell
  have c0 := hI.r0.cell
  have c1 := hI.r1.cell
  have c2 := hI.r2.cell
  have f0 := hI.r0.frozen
  have f1 := hI.r1.frozen
  have f2 := hI.r2.frozen
  have q0 : Hid (Boxed W w.heap.size 67 (.slice none 0 0)) := hI.r0
  have q1 : Hid (Boxed W (w.heap.size + 1) 3 (.int .i64 0)) := hI.r1
  have q2 : Hid (Boxed W (w.heap.size + 2) 45 (.int .i64 0)) := hI.r2
  clear hI hv hr
  generalize (recsOf (cutV s 10)).length = n at *
  generalize recsOf (cutV s 10) = rs at *
  gi_wp2
  have ts : Turns (fun k => k = w.heap.size ∨ k = w.heap.size + 1 ∨ k = w.heap.size + 2 ∨ k = w.heap.size + 8) W (((W.setCell ⟨w.heap.size, 0, none⟩ (.slice va n vc)).setCell ⟨w.heap.size + 1, 0, none⟩ (.int .i64 0)).setCell ⟨w.heap.size + 2, 0, none⟩ (.int .i64 0)) :=
   (((Turns.refl _ W).set w.heap.size _ (.inl rfl)).set (w.heap.size + 1) _ (.inr (.inl rfl))).set (w.heap.size + 2) _ (.inr (.inr (.inl rfl)))
  have td : Turns (fun k => k = w.heap.size ∨ k = w.heap.size + 1 ∨ k = w.heap.size + 2) W (((W.setCell ⟨w.heap.size, 0, none⟩ (.slice va n vc)).setCell ⟨w.heap.size + 1, 0, none⟩ (.int .i64 0)).setCell ⟨w.heap.size + 2, 0, none⟩ (.int .i64 0)) :=
   (((Turns.refl _ W).set w.heap.size _ (.inl rfl)).set (w.heap.size + 1) _ (.inr (.inl rfl))).set (w.heap.size + 2) _ (.inr (.inr rfl))
  have hd' := (td.block w'.heap.size (Array.getElem?_eq_some_iff.1 hd).1 (by omega)).trans hd
  refine ⟨by simp, .inl ⟨_, _, rfl, run_takeDeferred hd', ?_⟩⟩
  have p0 := (((q0.out.set (.slice va n vc)).other (B' := w.heap.size + 1) (by omega) (.int .i64 0)).other (B' := w.heap.size + 2) (by omega) (.int .i64 0)).kept (grownBy_putObj' _ w'.heap.size (.deferred none)) (fun e => by have := Option.some.inj e; omega)
  have p1 := (((q1.out.other (B' := w.heap.size) (by omega) (.slice va n vc)).set (.int .i64 0)).other (B' := w.heap.size + 2) (by omega) (.int .i64 0)).kept (grownBy_putObj' _ w'.heap.size (.deferred none)) (fun e => by have := Option.some.inj e; omega)
  have p2 := (((q2.out.other (B' := w.heap.size) (by omega) (.slice va n vc)).other (B' := w.heap.size + 1) (by omega) (.int .i64 0)).set (.int .i64 0)).kept (grownBy_putObj' _ w'.heap.size (.deferred none)) (fun e => by have := Option.some.inj e; omega)
  have e0 := p0.cell
  have e1 := p1.cell
  have e2 := p2.cell
  refine ⟨.tuple #[.slice va n vc, .int .i64 0, .int .i64 0], ?_, ⟨.slice va n vc, ?_, ?_⟩⟩
  ·simp [results, Tryz.f55, go_sem, e0, e1, e2]
  ·rw [HV.out]; rfl
  ·rw [HV.out]; exact HT.out _ (ts.put w'.heap.size _ (.inr (.inr (.inr hsz))))
 case stop =>
  intro pre W hI hd
  have HV : Hid (parseV s = ([], pre.length, 20)) := by
   obtain ⟨p, x, rest, rfl, h1, h2, h3⟩ := hI.bad
   rw [Hid, parseV_bad h1 h2 h3]
   simp
  have hlow := hI.low
  gi_wp2
  refine ⟨by simp, .inl ⟨_, _, rfl, run_takeDeferred hd, ?_⟩⟩
  have e0 := (hI.r0.kept (grownBy_putObj' _ w'.heap.size (.deferred none)) (fun e => by have := Option.some.inj e; omega)).cell
  have e1 := (hI.r1.kept (grownBy_putObj' _ w'.heap.size (.deferred none)) (fun e => by have := Option.some.inj e; omega)).cell
  have e2 := (hI.r2.kept (grownBy_putObj' _ w'.heap.size (.deferred none)) (fun e => by have := Option.some.inj e; omega)).cell
  have tp : Turns (fun k => k = w'.heap.size) W (W.putObj w'.heap.size (.deferred none)) := Turns.put (D := fun k => k = w'.heap.size) (Turns.refl _ W) w'.heap.size _ rfl
  refine ⟨.tuple #[.slice none 0 0, .int .i64 pre.length, .int .i64 20], ?_, ⟨.slice none 0 0, ?_, ?_, hlow.trans (tp.below hlow.size (fun k d => by omega))⟩⟩
  ·simp [results, Tryz.f55, go_sem, e0, e1, e2]
  ·rw [HV.out]
  ·rw [HV.out]; exact Recs.nil _ _
end Go.Proofs.YtinlolmjafjhnaaGreatDoor.lin
end

section
/- What the statements' awake answers: true. How records in memory are read. -/
set_option linter.unusedVariables false
set_option linter.unusedSimpArgs false
namespace Go.Proofs.YtinlolmjafjhnaaGreatDoor.lin
open Go.RowKit

/-- A record lies at cell off of block b. -/
def RecAt (w : World) (b off : Nat) (r : RecT) : Prop :=
 w.cell? ⟨b, off, none⟩ = some (.int .i64 r.1) ∧ w.cell? ⟨b, off + 1, none⟩ = some (.int .i64 r.2.1) ∧
 ∃ g o c, w.cell? ⟨b, off + 1 + 1, none⟩ = some (.slice (some ⟨g, o, none⟩) r.2.2.length c) ∧ ∀ j, j < r.2.2.length → w.cell? ⟨g, o + j, none⟩ = some (.string (r.2.2.getD j ByteArray.empty))

theorem flatR_get : ∀ (L : List RR) (i : Nat) (q : RR), L[i]? = some q → (flatR L)[i * 3]? = some (.int .i64 q.lo) ∧ (flatR L)[i * 3 + 1]? = some (.int .i64 q.hi) ∧ (flatR L)[i * 3 + 1 + 1]? = some q.fv
 | [], i, q, h => by simp at h
 | x :: L, 0, q, h => by simp at h; subst h; simp [flatR]
 | x :: L, i + 1, q, h => by
  have := flatR_get L i q (by simpa using h)
  rw [show x :: L = [x] ++ L from rfl, flatR_append, show flatR [x] = [.int .i64 x.lo, .int .i64 x.hi, x.fv] from rfl]
  rw [show (i + 1) * 3 = i * 3 + 3 from by omega]
  simpa using this

/-- Records that are a row: the slice, and each record where it lies. -/
theorem Recs.view {w : World} {base : Nat} {v : Value} {rs : List RecT} (h : Recs w base v rs) :
  ∃ a c, v = .slice a rs.length c ∧ (0 < rs.length → ∃ g, a = some ⟨g, 0, none⟩ ∧ base ≤ g ∧ g < w.heap.size ∧ ∀ i r, rs[i]? = some r → RecAt w g (i * 3) r) := by
 obtain ⟨L, rfl, ho, hf⟩ := h
 rw [List.length_map]
 rcases ho.2 with hn | ⟨g, cap, cur, rfl, hg, hgg, h3, h4, h5, h6⟩
 ·obtain ⟨rfl, h0⟩ := hn
  have h0' : L.length = 0 := by simpa using h0
  rw [h0']
  exact ⟨_, _, rfl, fun h => by omega⟩
 ·refine ⟨_, _, rfl, fun _ => ⟨g, rfl, hg, (Array.getElem?_eq_some_iff.1 hgg).1, ?_⟩⟩
  intro i r hr
  rw [List.getElem?_map] at hr
  cases hq : L[i]? with
  | none => rw [hq] at hr; cases hr
  | some q =>
   rw [hq] at hr
   obtain rfl : q.plain = r := by simpa using hr
   have hi : i < L.length := (List.getElem?_eq_some_iff.1 hq).1
   obtain ⟨e1, e2, e3⟩ := flatR_get L i q hq
   have get : ∀ j, j < L.length * 3 → w.cell? ⟨g, j, none⟩ = (flatR L)[j]? := by
    intro j hj
    rw [cell_of_row w g j cur _ _ hgg, ← h6, List.getElem?_take_of_lt hj, Array.getElem?_toList]
   obtain ⟨g', o, c, cur', hv, _, hgg', hcc⟩ := hf q (List.mem_of_getElem? hq)
   refine ⟨(get _ (by omega)).trans e1, (get _ (by omega)).trans e2, g', o, c, ?_, ?_⟩
   ·rw [get _ (by omega), e3, hv]; rfl
   ·intro j hj
    rw [cell_of_row w g' _ cur' _ _ hgg']
    exact hcc j hj

def lineA : ByteArray := ⟨#[48, 48, 52, 49, 46, 46, 48, 48, 53, 65, 32, 59, 32, 76, 117, 32, 35, 32, 120]⟩
end Go.Proofs.YtinlolmjafjhnaaGreatDoor.lin
end

section
/- What the statements' SameRecords answers of equal records: true. -/
set_option linter.unusedVariables false
set_option linter.unusedSimpArgs false
namespace Go.Proofs.YtinlolmjafjhnaaGreatDoor.lin
open Go.RowKit

theorem RecAt.below {w w' : World} {b off : Nat} {r : RecT} (h : RecAt w b off r) {n : Nat} (hb : Below n w w') (hn : w.heap.size ≤ n) : RecAt w' b off r := by
 obtain ⟨h1, h2, g, o, c, h3, h4⟩ := h
 have k : ∀ (a : Addr) (v : Value), w.cell? a = some v → w'.cell? a = some v := fun a v h => (hb.cell (p := a) (by have := World.block_lt_of_cell? w a h; omega)).trans h
 exact ⟨k _ _ h1, k _ _ h2, g, o, c, k _ _ h3, fun j hj => k _ _ (h4 j hj)⟩

/-- A slice of records rs. -/
def View (w : World) (v : Value) (rs : List RecT) : Prop :=
 ∃ a c, v = .slice a rs.length c ∧ (0 < rs.length → ∃ b o, a = some ⟨b, o, none⟩ ∧ ∀ i r, rs[i]? = some r → RecAt w b (o + i * 3) r)
theorem Recs.seen {w : World} {base : Nat} {v : Value} {rs : List RecT} (h : Recs w base v rs) : View w v rs := by
 obtain ⟨a, c, rfl, hv⟩ := h.view
 refine ⟨a, c, rfl, fun h => ?_⟩
 obtain ⟨g, rfl, _, _, hr⟩ := hv h
 exact ⟨g, 0, rfl, fun i r hi => by rw [Nat.zero_add]; exact hr i r hi⟩
theorem View.below {w w' : World} {v : Value} {rs : List RecT} (h : View w v rs) {n : Nat} (hb : Below n w w') (hn : w.heap.size ≤ n) : View w' v rs := by
 obtain ⟨a, c, rfl, hv⟩ := h
 refine ⟨a, c, rfl, fun h => ?_⟩
 obtain ⟨g, o, rfl, hr⟩ := hv h
 exact ⟨g, o, rfl, fun i r hi => (hr i r hi).below hb hn⟩

end Go.Proofs.YtinlolmjafjhnaaGreatDoor.lin
end

section
/- What the document's trim answers of any text. -/
set_option linter.unusedVariables false
set_option linter.unusedSimpArgs false
namespace Go.Proofs.YtinlolmjafjhnaaGreatDoor.lin
open Go.RowKit

end Go.Proofs.YtinlolmjafjhnaaGreatDoor.lin
end

section
/- What the document's cut answers of any text: its parts between a byte. -/
set_option linter.unusedVariables false
set_option linter.unusedSimpArgs false
namespace Go.Proofs.YtinlolmjafjhnaaGreatDoor.lin
open Go.RowKit

end Go.Proofs.YtinlolmjafjhnaaGreatDoor.lin
end

section
/- What the document's fields answers of any line: the same as lines.fieldsOf. -/
set_option linter.unusedVariables false
set_option linter.unusedSimpArgs false
namespace Go.Proofs.YtinlolmjafjhnaaGreatDoor.lin
open Go.RowKit

/-- A row of strings: the slice, and each string where it lies. -/
theorem strRow {w : World} {base : Nat} {v : Value} {xs : List ByteArray} (h : w.ownsRow base 9 1 v xs.length (xs.map Value.string)) :
  ∃ a c, v = .slice a xs.length c ∧ (0 < xs.length → ∃ g, a = some ⟨g, 0, none⟩ ∧ base ≤ g ∧ g < w.heap.size ∧ xs.length ≤ c ∧ c ≤ maxLen ∧ (∃ cur : Array Value, w.heap[g]? = some (.cells cur 9 (0, 0)) ∧ ∀ (i : Nat) (x : ByteArray), xs[i]? = some x → cur[i]? = some (Value.string x)) ∧ ∀ (i : Nat) (x : ByteArray), xs[i]? = some x → w.cell? ⟨g, i, none⟩ = some (.string x)) := by
 rcases h.2 with hn | ⟨g, cap, cur, rfl, hg, hgg, h3, h4, h5, h6⟩
 ·obtain ⟨rfl, h0⟩ := hn
  rw [h0]
  exact ⟨_, _, rfl, fun h => by omega⟩
 ·have hc : ∀ (i : Nat) (x : ByteArray), xs[i]? = some x → cur[i]? = some (Value.string x) := by
   intro i x hx
   have hi : i < xs.length * 1 := by have := (List.getElem?_eq_some_iff.1 hx).1; omega
   rw [← Array.getElem?_toList, ← List.getElem?_take_of_lt hi, h6, List.getElem?_map, hx]
   rfl
  exact ⟨_, _, rfl, fun _ => ⟨g, rfl, hg, (Array.getElem?_eq_some_iff.1 hgg).1, h3, h4, ⟨cur, hgg, hc⟩, fun i x hx => by rw [cell_of_row w g i cur _ _ hgg]; exact hc i x hx⟩⟩
theorem own_lower {w : World} {B B2 e size n : Nat} {v : Value} {xs : List Value} (h : w.ownsRow B2 e size v n xs) (hb : B ≤ B2) : w.ownsRow B e size v n xs := by
 refine ⟨h.1, ?_⟩
 rcases h.2 with hn | ⟨g, cap, cur, rfl, hg, rest⟩
 ·exact .inl hn
 ·exact .inr ⟨g, cap, cur, rfl, by omega, rest⟩

end Go.Proofs.YtinlolmjafjhnaaGreatDoor.lin
end

section
/- What the document's record answers of any fields: the record that they say, if they say one. -/
set_option linter.unusedVariables false
set_option linter.unusedSimpArgs false
namespace Go.Proofs.YtinlolmjafjhnaaGreatDoor.lin
open Go.RowKit

end Go.Proofs.YtinlolmjafjhnaaGreatDoor.lin
end

section
/- The statement LinesApart, walked. -/
set_option linter.unusedVariables false
set_option linter.unusedSimpArgs false
namespace Go.Proofs.YtinlolmjafjhnaaGreatDoor.lin
open Go.RowKit

end Go.Proofs.YtinlolmjafjhnaaGreatDoor.lin
end

section
/- What the document's Parse answers of any text: the same as lines.Parse. -/
set_option linter.unusedVariables false
set_option linter.unusedSimpArgs false
namespace Go.Proofs.YtinlolmjafjhnaaGreatDoor.lin
open Go.RowKit

end Go.Proofs.YtinlolmjafjhnaaGreatDoor.lin
end
