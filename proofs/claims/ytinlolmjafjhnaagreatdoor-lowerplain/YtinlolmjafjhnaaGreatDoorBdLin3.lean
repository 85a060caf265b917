/- Texts that the proof leans on, one behind the other. -/
import Derived.Test.YtinlolmjafjhnaaGreatDoorBdLin2
import Derived.WalkSmall
import Derived.Deep.LoopGhost
import Derived.Lib.OthersKept
import Derived.Maps.AppendAt
import Derived.Test.YtinlolmjafjhnaaGreatDoorBdLin1
import Derived.Lib.IndexMore
import Derived.OwnWalk
import Derived.Laws.ResultCell
import Derived.Handy

section
/- What lines.fieldsOf answers of any line: its fields, trimmed, up to a remark; none, if it says nothing. -/
set_option linter.unusedVariables false
set_option linter.unusedSimpArgs false
namespace Go.Proofs.YtinlolmjafjhnaaGreatDoor.lin
open Go.RowKit

/-- The fields that are over, where the last one begins and ends. -/
def scan (s : ByteArray) : Nat → Nat → Nat → List ByteArray → List ByteArray × Nat × Nat
 | 0, _, st, out => (out, st, s.size)
 | k + 1, p, st, out => if at8 s p = 35 then (out, st, p) else if at8 s p = 59 then scan s k (p + 1) (p + 1) (out ++ [trim (s.extract st p)]) else scan s k (p + 1) st out
/-- A line's fields. -/
def close (s : ByteArray) (x : List ByteArray × Nat × Nat) : List ByteArray := if x.1.length = 0 ∧ (trim (s.extract x.2.1 x.2.2)).size = 0 then [] else x.1 ++ [trim (s.extract x.2.1 x.2.2)]
def fieldsV (s : ByteArray) : List ByteArray := close s (scan s s.size 0 0 [])

theorem scan_hash (s : ByteArray) (k p st : Nat) (out : List ByteArray) (hk : k ≠ 0) (h : at8 s p = 35) : scan s k p st out = (out, st, p) := by
 cases k with
 | zero => omega
 | succ k => rw [scan, if_pos h]
theorem scan_semi (s : ByteArray) (k p st : Nat) (out : List ByteArray) (hk : k ≠ 0) (h : at8 s p = 59) : scan s k p st out = scan s (k - 1) (p + 1) (p + 1) (out ++ [trim (s.extract st p)]) := by
 cases k with
 | zero => omega
 | succ k => rw [scan, if_neg (by omega), if_pos h]; rfl
theorem scan_else (s : ByteArray) (k p st : Nat) (out : List ByteArray) (hk : k ≠ 0) (h : at8 s p ≠ 35) (h' : at8 s p ≠ 59) : scan s k p st out = scan s (k - 1) (p + 1) st out := by
 cases k with
 | zero => omega
 | succ k => rw [scan, if_neg h, if_neg h']; rfl
theorem scan_skip (s : ByteArray) : ∀ q p st out, (∀ j, p ≤ j → j < p + q → j < s.size → 128 ≤ at8 s j) → scan s (s.size - p) p st out = scan s (s.size - (p + q)) (p + q) st out := by
 intro q
 induction q with
 | zero => intro p st out _; rfl
 | succ q ih =>
  intro p st out h
  rcases Nat.lt_or_ge p s.size with hp | hp
  ·have h0 := h p (Nat.le_refl _) (by omega) hp
   rw [scan_else s (s.size - p) p st out (by omega) (by omega) (by omega), show s.size - p - 1 = s.size - (p + 1) from by omega, ih (p + 1) st out (fun j a b c => h j (by omega) (by omega) c)]
   rw [show p + 1 + q = p + (q + 1) from by omega]
  ·rw [show s.size - p = 0 from by omega, show s.size - (p + (q + 1)) = 0 from by omega]
   rfl

theorem get_at8 (s : ByteArray) (j : Nat) (h : j < s.size) : ((s.get! j).toNat : Int) = at8 s j := by
 rw [at8_eq s j h]
 have : s.get! j = s[j]'h := by simp [ByteArray.get!, getElem!_pos, h]; rfl
 rw [this]

theorem decode_tail (s : ByteArray) (p j : Nat) (h1 : p < j) (h2 : j < p + (Utf8.decode s p).2) : 128 ≤ (s.get! j).toNat := by
 simp only [Utf8.decode] at h2
 repeat' split at h2
 all_goals simp only [Bool.and_eq_true, decide_eq_true_eq, beq_iff_eq] at *
 all_goals (rcases (show j = p + 1 ∨ j = p + 2 ∨ j = p + 3 from by omega) with rfl | rfl | rfl <;> omega)

theorem infoStr : (Tryz.prog.info? 9).map (fun i => (i.zero, i.size, i.bytes)) = some (some (.string ByteArray.empty), 1, 16) := by kernel_rfl

/-- The end of fieldsOf, as lemmas over the list: what is answered. -/
theorem own_below {w w' : World} {B e size n : Nat} {v : Value} {xs : List Value} (h : w.ownsRow B e size v n xs) (hb : Below w.heap.size w w') : w'.ownsRow B e size v n xs := by
 refine ⟨h.1, ?_⟩
 rcases h.2 with hn | ⟨g, cap, cur, rfl, hg, hgg, rest⟩
 ·exact .inl hn
 ·exact .inr ⟨g, cap, cur, rfl, hg, by rw [hb.block g (Array.getElem?_eq_some_iff.1 hgg).1]; exact hgg, rest⟩
theorem own_slice {w : World} {B e size n : Nat} {v : Value} {xs : List Value} (h : w.ownsRow B e size v n xs) : ∃ a c, v = .slice a n c := by
 rcases h.2 with hn | ⟨g, cap, cur, rfl, _⟩
 ·obtain ⟨rfl, rfl⟩ := hn; exact ⟨_, _, rfl⟩
 ·exact ⟨_, _, rfl⟩
theorem isEmpty_of {t : ByteArray} (h : t.size = 0) : t.toList.isEmpty = true := by
 rw [Lib.toList_data]
 have : t.data.toList = [] := List.eq_nil_of_length_eq_zero (by rw [Array.length_toList]; exact h)
 rw [this]; rfl
theorem isEmpty_not {t : ByteArray} (h : ¬ t.size = 0) : t.toList.isEmpty = false := by
 rw [Lib.toList_data]
 cases hl : t.data.toList with
 | nil => exact absurd (by show t.data.size = 0; rw [← Array.length_toList, hl]; rfl) h
 | cons x l => rfl
theorem close_nil {s : ByteArray} {out : List ByteArray} {st en : Nat} (h0 : out.length = 0) (ht : (trim (s.extract st en)).size = 0) : close s (out, st, en) = [] := by
 unfold close; rw [if_pos ⟨h0, ht⟩]
theorem close_more {s : ByteArray} {out : List ByteArray} {st en : Nat} (h : ¬ (out.length = 0 ∧ (trim (s.extract st en)).size = 0)) : close s (out, st, en) = out ++ [trim (s.extract st en)] := by
 unfold close; rw [if_neg h]

set_option maxHeartbeats 2000000 in
set_option maxRecDepth 100000 in
theorem fields_any (s : ByteArray) (w : World) (hs : s.size ≤ 1099511627776) :
  Calls Tryz.prog 78 #[.string s] w fun e w' => ∃ v, e = .returned v ∧ w'.ownsRow (w.heap.size + 1) 9 1 v (fieldsV s).length ((fieldsV s).map Value.string) ∧ Below w.heap.size w w' := by
 obtain ⟨i0, hi, hz0, hy1, hz2⟩ := info_parts infoStr
 go_enter Tryz.func78, Tryz.ntmps78
 go_wp2
 go_step3
 go_wp2
 go_step3
 go_wp2
 go_loopg [3, 4, 5] s.size (fun k v t e wr => ∃ (p st : Nat) (out : List ByteArray), k = s.size - p ∧ t = .int .i64 st ∧ e = .int .i64 s.size ∧ st ≤ s.size ∧ st ≤ p ∧ out.length ≤ st ∧ Hid (wr.heap[w.heap.size]? = some (.stringIter s p)) ∧ wr.ownsRow (w.heap.size + 1) 9 1 v out.length (out.map Value.string) ∧ Hid (scan s (s.size - p) p st out = scan s s.size 0 0 []) ∧ Below w.heap.size w wr)
 case atStart => exact ⟨0, 0, [], by omega, rfl, rfl, Nat.zero_le _, Nat.le_refl _, Nat.le_refl _, World.iter_heap w s 0, World.ownsRow_nil _ _ _ _, rfl, (Below.refl _ _).alloc (Nat.le_refl _) _⟩
 case round =>
  obtain ⟨p, st, out, hgk, rfl, rfl, hst, hsp, hol, HIT, hown, HSC, hbel⟩ := hrel
  have HGK : Hid (gk = s.size - p) := hgk
  clear hgk
  obtain ⟨sa, sc, rfl⟩ := own_slice hown
  by_cases hp : p < s.size
  ·have he := at8_eq s p hp
   have hit2 := Lib.iterAt_heap wr w.heap.size s p (p + (Utf8.decode s p).2) HIT.out
   have hb2 := Lib.below_iterAt hbel (k := w.heap.size) (Nat.le_refl _) s (p + (Utf8.decode s p).2)
   have hown2 := ownsRow_iterAt hown (k := w.heap.size) (by omega) s (p + (Utf8.decode s p).2)
   have hsz2 : (wr.iterAt w.heap.size s (p + (Utf8.decode s p).2)).heap.size = wr.heap.size := Lib.iterAt_size _ _ _ _
   have hnx := fun ty => Lib.run_next_any_at (P := Tryz.prog) wr w.heap.size s p ty HIT.out hp
   by_cases ha : (s[p]'hp).toNat < 128
   ·rw [decode_ascii s p hp ha] at hnx hit2 hb2 hown2 hsz2
    by_cases h35 : (s[p]'hp).toNat = 35
    ·have t1 : ((((s[p]'hp).toNat : Nat) : Int) == 35) = true := by simp; omega
     have HS2 : Hid (fieldsV s = close s (out, st, p)) := by
      unfold Hid fieldsV; rw [← HSC.out, scan_hash s _ p st out (by omega) (by rw [he]; omega)]
     have TM := trimmed_any (s.extract st p) (wr.iterAt w.heap.size s (p + 1)) (by rw [ByteArray.size_extract]; omega)
     have hlt : w.heap.size < (wr.iterAt w.heap.size s (p + 1)).heap.size := (Array.getElem?_eq_some_iff.1 hit2).1
     clear HSC hown hbel he hit2 HIT
     generalize hr : (s[p]'hp).toNat = r at *
     clear hr
     generalize hW : wr.iterAt w.heap.size s (p + 1) = W at *
     go_wp2_with fail
     refine TM.mono ?_
     rintro e w2 ⟨rfl, hb3⟩
     have b3 := hb2.trans (hb3.mono hb2.size)
     have hown3 := own_below hown2 hb3
     have hs3 := b3.size
     have hbs := hb3.size
     have hit3 : w.heap.size + 1 ≤ w2.heap.size := by omega
     have HCN := @close_nil s out st p
     have HCM := @close_more s out st p
     have HC1 : Hid (out.length = 0 → (trim (s.extract st p)).size = 0 → close s (out, st, p) = []) := fun a b => close_nil a b
     have HC2 : Hid (¬ (out.length = 0 ∧ (trim (s.extract st p)).size = 0) → close s (out, st, p) = out ++ [trim (s.extract st p)]) := fun a => close_more a
     clear TM hb3 hb2 hown2 HCN HCM
     generalize trim (s.extract st p) = t at *
     by_cases hz : out.length = 0 ∧ t.size = 0
     ·have z1 : ((out.length : Int) == 0) = true := by rw [hz.1]; rfl
      have z2 : t.toList.isEmpty = true := isEmpty_of hz.2
      have HF : Hid (fieldsV s = []) := HS2.out.trans (HC1.out hz.1 hz.2)
      clear hz HC1 HC2 hown3
      go_wp2
      try rw [Exit.noGoto_ret]
      go_ret
      exact ⟨_, rfl, by rw [HF.out]; exact World.ownsRow_nil _ _ _ _, b3⟩
     ·have HF : Hid (fieldsV s = out ++ [t]) := HS2.out.trans (HC2.out hz)
      clear HC1 HC2
      have HW : Hid (∀ k, (Value.slice sa out.length sc).ownBlock = some k → w.heap.size + 1 ≤ k) := fun k e => (hown3.lt _ e).1
      by_cases hz1 : out.length = 0
      ·have z1 : ((out.length : Int) == 0) = true := by rw [hz1]; rfl
       have z2 : t.toList.isEmpty = false := isEmpty_not (fun h => hz ⟨hz1, h⟩)
       clear hz hz1
       go_wp2_with (at_builtin; refine wpList_append_own _ rfl _ _ 33 rfl (w.heap.size + 1) 9 i0 (.string ByteArray.empty) 1 16 Tryz.underlying33 hi hz0 hy1 hz2 rfl (by decide) _ _ _ rfl (hown3.alloc _) ⟨w2.heap.size, 0, none⟩ 1 1 [.string t] rfl rfl (cell_one_new _ _ _) (by simp [Value.oneCell']) (by unfold maxLen; omega) (by omega) (by simp; omega) ?_)
       intro v' w3 hown4 hgrow _
       have R1 := (b3.alloc hs3 (.cells #[.string t] 9)).grown hgrow (by simp; omega) (fun k e => by have := HW.out k e; omega)
       clear hgrow hown3
       go_wp2
       try rw [Exit.noGoto_ret]
       go_ret
       exact ⟨_, rfl, by rw [HF.out, List.length_append, List.map_append]; exact hown4, R1⟩
      ·have z1 : ((out.length : Int) == 0) = false := by rw [beq_eq_false_iff_ne]; omega
       clear hz
       go_wp2_with (at_builtin; refine wpList_append_own _ rfl _ _ 33 rfl (w.heap.size + 1) 9 i0 (.string ByteArray.empty) 1 16 Tryz.underlying33 hi hz0 hy1 hz2 rfl (by decide) _ _ _ rfl (hown3.alloc _) ⟨w2.heap.size, 0, none⟩ 1 1 [.string t] rfl rfl (cell_one_new _ _ _) (by simp [Value.oneCell']) (by unfold maxLen; omega) (by omega) (by simp; omega) ?_)
       intro v' w3 hown4 hgrow _
       have R1 := (b3.alloc hs3 (.cells #[.string t] 9)).grown hgrow (by simp; omega) (fun k e => by have := HW.out k e; omega)
       clear hgrow hown3
       go_wp2
       try rw [Exit.noGoto_ret]
       go_ret
       exact ⟨_, rfl, by rw [HF.out, List.length_append, List.map_append]; exact hown4, R1⟩
    ·by_cases h59 : (s[p]'hp).toNat = 59
     ·have t1 : ((((s[p]'hp).toNat : Nat) : Int) == 35) = false := by simp; omega
      have t2 : ((((s[p]'hp).toNat : Nat) : Int) == 59) = true := by simp; omega
      have HS2 : Hid (scan s (s.size - (p + 1)) (p + 1) (p + 1) (out ++ [trim (s.extract st p)]) = scan s s.size 0 0 []) := by
       have := scan_semi s (s.size - p) p st out (by omega) (by rw [he]; omega)
       rw [show s.size - p - 1 = s.size - (p + 1) from by omega] at this
       exact this.symm.trans HSC.out
      have HT2 : Hid ((wr.iterAt w.heap.size s (p + 1)).heap[w.heap.size]? = some (.stringIter s (p + 1))) := hit2
      have TM := trimmed_any (s.extract st p) (wr.iterAt w.heap.size s (p + 1)) (by rw [ByteArray.size_extract]; omega)
      clear hit2 HSC hown hbel he HIT
      generalize hr : (s[p]'hp).toNat = r at *
      clear hr
      generalize hW : wr.iterAt w.heap.size s (p + 1) = W at *
      clear hW
      go_wp2_with fail
      refine TM.mono ?_
      rintro e w2 ⟨rfl, hb3⟩
      have b3 := hb2.trans (hb3.mono hb2.size)
      have hown3 := own_below hown2 hb3
      have hs3 := b3.size
      have hlt := (Array.getElem?_eq_some_iff.1 HT2.out).1
      have hit3 : w.heap.size + 1 ≤ w2.heap.size := by have := hb3.size; omega
      have HT3 : Hid (w2.heap[w.heap.size]? = some (.stringIter s (p + 1))) := (hb3.block _ hlt).trans HT2.out
      have HW : Hid (∀ k, (Value.slice sa out.length sc).ownBlock = some k → w.heap.size + 1 ≤ k) := fun k e => (hown3.lt _ e).1
      clear TM hb3 hb2 hown2 HT2
      generalize trim (s.extract st p) = t at *
      go_wp2_with (at_builtin; refine wpList_append_own _ rfl _ _ 33 rfl (w.heap.size + 1) 9 i0 (.string ByteArray.empty) 1 16 Tryz.underlying33 hi hz0 hy1 hz2 rfl (by decide) _ _ _ rfl (hown3.alloc _) ⟨w2.heap.size, 0, none⟩ 1 1 [.string t] rfl rfl (cell_one_new _ _ _) (by simp [Value.oneCell']) (by unfold maxLen; omega) (by omega) (by simp; omega) ?_)
      intro v' w3 hown4 hgrow _
      have R1 := (b3.alloc hs3 (.cells #[.string t] 9)).grown hgrow (by simp; omega) (fun k e => by have := HW.out k e; omega)
      have R2 : Hid (w3.heap[w.heap.size]? = some (.stringIter s (p + 1))) := by
       refine (hgrow.block w.heap.size (by simp; omega) (fun e => by have := HW.out _ e.symm; omega)).trans ?_
       rw [Below.heap_alloc _ _ _ (by omega)]
       exact HT3.out
      have R3 : w3.ownsRow (w.heap.size + 1) 9 1 v' (out ++ [t]).length ((out ++ [t]).map Value.string) := by
       rw [List.length_append, List.map_append]; exact hown4
      clear hgrow hown3 hown4 HT3
      go_wp2
      go_roundg (s.size - (p + 1))
      case measure => have := HGK.out; omega
      case rel => exact ⟨p + 1, p + 1, out ++ [t], rfl, by go_num, rfl, by omega, Nat.le_refl _, by simp; omega, R2, R3, HS2, R1⟩
     ·have HS2 : Hid (scan s (s.size - (p + 1)) (p + 1) st out = scan s s.size 0 0 []) := by
       have := scan_else s (s.size - p) p st out (by omega) (by rw [he]; omega) (by rw [he]; omega)
       rw [show s.size - p - 1 = s.size - (p + 1) from by omega] at this
       exact this.symm.trans HSC.out
      have HT2 : Hid ((wr.iterAt w.heap.size s (p + 1)).heap[w.heap.size]? = some (.stringIter s (p + 1))) := hit2
      have t1 : ((((s[p]'hp).toNat : Nat) : Int) == 35) = false := by simp; omega
      have t2 : ((((s[p]'hp).toNat : Nat) : Int) == 59) = false := by simp; omega
      clear hit2 HSC hown hbel he HIT
      generalize hr : (s[p]'hp).toNat = r at *
      clear hr
      generalize hW : wr.iterAt w.heap.size s (p + 1) = W at *
      go_wp2
      go_roundg (s.size - (p + 1))
      case measure => have := HGK.out; omega
      case rel => exact ⟨p + 1, st, out, rfl, rfl, rfl, hst, by omega, hol, HT2, hown2, HS2, hb2⟩
   ·have hge := decode_high s p hp (by omega)
    have HS2 : Hid (scan s (s.size - (p + (Utf8.decode s p).2)) (p + (Utf8.decode s p).2) st out = scan s s.size 0 0 []) := by
     refine (scan_skip s (Utf8.decode s p).2 p st out (fun j h1 h2 h3 => ?_)).symm.trans HSC.out
     rcases Nat.eq_or_lt_of_le h1 with rfl | h4
     ·rw [he]; omega
     ·have := decode_tail s p j h4 h2
      have e := get_at8 s j h3
      omega
    have HT2 : Hid ((wr.iterAt w.heap.size s (p + (Utf8.decode s p).2)).heap[w.heap.size]? = some (.stringIter s (p + (Utf8.decode s p).2))) := hit2
    have t1 : (((Utf8.decode s p).1 : Int) == 35) = false := by simp; omega
    have t2 : (((Utf8.decode s p).1 : Int) == 59) = false := by simp; omega
    obtain ⟨_, hq⟩ := hge
    clear hit2 HSC hown hbel he
    generalize hr : (Utf8.decode s p).1 = r at *
    generalize hqq : (Utf8.decode s p).2 = q at *
    clear hr hqq
    generalize hW : wr.iterAt w.heap.size s (p + q) = W at *
    go_wp2
    go_roundg (s.size - (p + q))
    case measure => have := HGK.out; omega
    case rel => exact ⟨p + q, st, out, rfl, rfl, rfl, hst, by omega, hol, HT2, hown2, HS2, hb2⟩
  ·have hnx := fun ty => Lib.run_next_end_at (P := Tryz.prog) wr w.heap.size s p ty HIT.out hp
   have HS2 : Hid (fieldsV s = close s (out, st, s.size)) := by
    unfold Hid fieldsV; rw [← HSC.out, show s.size - p = 0 from by omega]; rfl
   have TM := trimmed_any (s.extract st s.size) wr (by rw [ByteArray.size_extract]; omega)
   have hb2 := hbel
   have hown2 := hown
   have hlt : w.heap.size < wr.heap.size := (Array.getElem?_eq_some_iff.1 HIT.out).1
   clear HSC HIT hbel hown
   go_wp2_with fail
   refine TM.mono ?_
   rintro e w2 ⟨rfl, hb3⟩
   have b3 := hb2.trans (hb3.mono hb2.size)
   have hown3 := own_below hown2 hb3
   have hs3 := b3.size
   have hbs := hb3.size
   have hit3 : w.heap.size + 1 ≤ w2.heap.size := by omega
   have HCN := @close_nil s out st s.size
   have HCM := @close_more s out st s.size
   have HC1 : Hid (out.length = 0 → (trim (s.extract st s.size)).size = 0 → close s (out, st, s.size) = []) := fun a b => close_nil a b
   have HC2 : Hid (¬ (out.length = 0 ∧ (trim (s.extract st s.size)).size = 0) → close s (out, st, s.size) = out ++ [trim (s.extract st s.size)]) := fun a => close_more a
   clear TM hb3 hb2 hown2 HCN HCM
   generalize trim (s.extract st s.size) = t at *
   by_cases hz : out.length = 0 ∧ t.size = 0
   ·have z1 : ((out.length : Int) == 0) = true := by rw [hz.1]; rfl
    have z2 : t.toList.isEmpty = true := isEmpty_of hz.2
    have HF : Hid (fieldsV s = []) := HS2.out.trans (HC1.out hz.1 hz.2)
    clear hz HC1 HC2 hown3
    go_wp2
    try rw [Exit.noGoto_ret]
    go_ret
    exact ⟨_, rfl, by rw [HF.out]; exact World.ownsRow_nil _ _ _ _, b3⟩
   ·have HF : Hid (fieldsV s = out ++ [t]) := HS2.out.trans (HC2.out hz)
    clear HC1 HC2
    have HW : Hid (∀ k, (Value.slice sa out.length sc).ownBlock = some k → w.heap.size + 1 ≤ k) := fun k e => (hown3.lt _ e).1
    by_cases hz1 : out.length = 0
    ·have z1 : ((out.length : Int) == 0) = true := by rw [hz1]; rfl
     have z2 : t.toList.isEmpty = false := isEmpty_not (fun h => hz ⟨hz1, h⟩)
     clear hz hz1
     go_wp2_with (at_builtin; refine wpList_append_own _ rfl _ _ 33 rfl (w.heap.size + 1) 9 i0 (.string ByteArray.empty) 1 16 Tryz.underlying33 hi hz0 hy1 hz2 rfl (by decide) _ _ _ rfl (hown3.alloc _) ⟨w2.heap.size, 0, none⟩ 1 1 [.string t] rfl rfl (cell_one_new _ _ _) (by simp [Value.oneCell']) (by unfold maxLen; omega) (by omega) (by simp; omega) ?_)
     intro v' w3 hown4 hgrow _
     have R1 := (b3.alloc hs3 (.cells #[.string t] 9)).grown hgrow (by simp; omega) (fun k e => by have := HW.out k e; omega)
     clear hgrow hown3
     go_wp2
     try rw [Exit.noGoto_ret]
     go_ret
     exact ⟨_, rfl, by rw [HF.out, List.length_append, List.map_append]; exact hown4, R1⟩
    ·have z1 : ((out.length : Int) == 0) = false := by rw [beq_eq_false_iff_ne]; omega
     clear hz
     go_wp2_with (at_builtin; refine wpList_append_own _ rfl _ _ 33 rfl (w.heap.size + 1) 9 i0 (.string ByteArray.empty) 1 16 Tryz.underlying33 hi hz0 hy1 hz2 rfl (by decide) _ _ _ rfl (hown3.alloc _) ⟨w2.heap.size, 0, none⟩ 1 1 [.string t] rfl rfl (cell_one_new _ _ _) (by simp [Value.oneCell']) (by unfold maxLen; omega) (by omega) (by simp; omega) ?_)
     intro v' w3 hown4 hgrow _
     have R1 := (b3.alloc hs3 (.cells #[.string t] 9)).grown hgrow (by simp; omega) (fun k e => by have := HW.out k e; omega)
     clear hgrow hown3
     go_wp2
     try rw [Exit.noGoto_ret]
     go_ret
     exact ⟨_, rfl, by rw [HF.out, List.length_append, List.map_append]; exact hown4, R1⟩
end Go.Proofs.YtinlolmjafjhnaaGreatDoor.lin
end

section
/- What the document's Hex and lines.Hex answer of a string of four to six bytes. -/
set_option linter.unusedVariables false
set_option linter.unusedSimpArgs false
namespace Go.Proofs.YtinlolmjafjhnaaGreatDoor.lin
open Go.RowKit

theorem hex_short (s : ByteArray) (w : World) (h : s.size < 4 ∨ 6 < s.size) (hs : s.size ≤ 9223372036854775807) :
  Calls Tryz.prog 88 #[.string s] w fun e w' => e = .returned (.tuple #[.int .i64 (hexN s), .bool (hexB s)]) ∧ Below w.heap.size w w' := by
 obtain ⟨e1, e2⟩ := hex_none (hexV_short s h)
 rw [e1, e2]
 rcases h with h | h
 ·go_enter Tryz.func88, Tryz.ntmps88
  go_wp2
  all_goals (go_ret2; exact ⟨rfl, Below.refl _ _⟩)
 ·have h' : ¬ s.size < 4 := by omega
  go_enter Tryz.func88, Tryz.ntmps88
  go_wp2
  all_goals (go_ret2; exact ⟨rfl, Below.refl _ _⟩)

theorem below_iter (w : World) (s : ByteArray) (p : Nat) : Below w.heap.size w (w.iter s p) := (Below.refl _ _).alloc (Nat.le_refl _) _

set_option maxHeartbeats 1000000 in
theorem hex_long (s : ByteArray) (w : World) (h4 : 4 ≤ s.size) (h6 : s.size ≤ 6) :
  Calls Tryz.prog 88 #[.string s] w fun e w' => e = .returned (.tuple #[.int .i64 (hexN s), .bool (hexB s)]) ∧ Below w.heap.size w w' := by
 have t1 : ¬ ((s.size : Int) < 4) := by omega
 have t2 : ¬ ((6 : Int) < (s.size : Int)) := by omega
 go_enter Tryz.func88, Tryz.ntmps88
 go_wp2
 go_loopw [4] (fun n wr => ∃ (p : Nat) (v : Int), p ≤ s.size ∧ n = .int .i64 v ∧ wr = w.iter s p ∧ Hid (Lim p v) ∧ Hid (hx s (s.size - p) p v = hx s s.size 0 0)) (fun _ wr => s.size - wr.iterPos w.heap.size)
 case atStart => exact ⟨0, 0, Nat.zero_le _, rfl, rfl, (by unfold Hid Lim; omega), rfl⟩
 case round =>
  obtain ⟨p, v, hp, rfl, rfl, HL, HX⟩ := hrel
  obtain ⟨hv0, hv1⟩ := HL.out.le (by omega)
  by_cases hlt : p < s.size
  ·by_cases ha : (s[p]'hlt).toNat < 128
   ·have hnx := fun ty => run_next_ascii (P := Tryz.prog) w s p ty hlt ha
    have he := at8_eq s p hlt
    have DG := digit_any ((s[p]'hlt).toNat : Int) (w.iter s (p + 1)) (by omega) (by omega)
    cases hd : dok (at8 s p) with
    | true =>
     have HX2 : Hid (hx s (s.size - (p + 1)) (p + 1) (v * 16 + dv (at8 s p)) = hx s s.size 0 0) := by
      have := hx_go s (s.size - p) p v (by omega) hd
      rw [show s.size - p - 1 = s.size - (p + 1) from by omega] at this
      exact this.symm.trans HX.out
     obtain ⟨hd0, hd1⟩ := dv_le (at8 s p)
     have HL2 : Hid (Lim (p + 1) (v * 16 + dv (at8 s p))) := HL.out.step (by omega) hd0 hd1
     have ho := or_digit v (dv (at8 s p)) hv0 hv1 hd0 hd1
     rw [← he, hd] at DG
     rw [he] at DG
     clear HX HL
     rw [he] at HX2 HL2 ho hd0 hd1
     clear he hd
     generalize dv ((s[p]'hlt).toNat : Int) = d at *
     go_wp2_with (go_at_call 125; refine DG.mono ?_; rintro e w' ⟨rfl, rfl⟩)
     go_roundw
     case rel => exact ⟨p + 1, v * 16 + d, by omega, rfl, by trivial, HL2, HX2⟩
     case measure => simp; omega
    | false =>
     have HN : Hid (hexV s = none) := hexV_none s (HX.out.symm.trans (hx_no s (s.size - p) p v (by omega) hd))
     rw [← he, hd] at DG
     rw [he] at DG
     clear HX HL he hd
     go_wp2_with (go_at_call 125; refine DG.mono ?_; rintro e w' ⟨rfl, rfl⟩)
     go_ret2
     exact ⟨ret_ib (hex_none HN.out).1.symm (hex_none HN.out).2.symm, below_iter w s _⟩
   ·have hnx := fun ty => run_next_any (P := Tryz.prog) w s p ty hlt
    have hge := decode_high s p hlt (by omega)
    have hle := decode_le s p
    have he := at8_eq s p hlt
    have hd : dok (at8 s p) = false := by
     cases hd : dok (at8 s p) with
     | false => rfl
     | true => have := (dok_iff _).1 hd; rw [he] at this; omega
    have hd2 : dok ((Utf8.decode s p).1 : Int) = false := by
     cases hd : dok ((Utf8.decode s p).1 : Int) with
     | false => rfl
     | true => have := (dok_iff _).1 hd; omega
    have HN : Hid (hexV s = none) := hexV_none s (HX.out.symm.trans (hx_no s (s.size - p) p v (by omega) hd))
    have DG := digit_any ((Utf8.decode s p).1 : Int) (w.iter s (p + (Utf8.decode s p).2)) (by omega) (by omega)
    rw [hd2] at DG
    clear HX HL he hd hd2 hge
    generalize (Utf8.decode s p).1 = r at *
    generalize (Utf8.decode s p).2 = q at *
    go_wp2_with (go_at_call 125; refine DG.mono ?_; rintro e w' ⟨rfl, rfl⟩)
    go_ret2
    exact ⟨ret_ib (hex_none HN.out).1.symm (hex_none HN.out).2.symm, below_iter w s _⟩
  ·obtain rfl : p = s.size := by omega
   have hnx := fun ty => run_next_end (P := Tryz.prog) w s s.size ty (by omega)
   have HX2 : Hid (hx s s.size 0 0 = some v) := by have := HX.out; rw [Nat.sub_self] at this; exact this.symm
   clear HX HL
   by_cases hv : 1114111 < v
   ·go_wp2
    go_ret2
    exact ⟨ret_ib (hex_none (hexV_big s v HX2.out hv)).1.symm (hex_none (hexV_big s v HX2.out hv)).2.symm, below_iter w s _⟩
   ·have hv' : v ≤ 1114111 := by omega
    go_wp2
    go_ret2
    exact ⟨ret_ib (hex_some (hexV_some s v HX2.out ⟨h4, h6⟩ hv')).1.symm (hex_some (hexV_some s v HX2.out ⟨h4, h6⟩ hv')).2.symm, below_iter w s _⟩

/-- What lines.Hex answers: what the document's Hex does. -/
theorem hex_any (s : ByteArray) (w : World) (hs : s.size ≤ 9223372036854775807) :
  Calls Tryz.prog 88 #[.string s] w fun e w' => e = .returned (.tuple #[.int .i64 (hexN s), .bool (hexB s)]) ∧ Below w.heap.size w w' := by
 by_cases h : s.size < 4 ∨ 6 < s.size
 ·exact hex_short s w h hs
 ·exact hex_long s w (by omega) (by omega)
end Go.Proofs.YtinlolmjafjhnaaGreatDoor.lin
end

section
/- What lines.boundsOf answers of any field: the two code points, if it says them. -/
set_option linter.unusedVariables false
set_option linter.unusedSimpArgs false
namespace Go.Proofs.YtinlolmjafjhnaaGreatDoor.lin
open Go.RowKit

/-- What stands ahead of, and behind, the first two dots; the field itself twice, if it has none. -/
def firstV (s : ByteArray) : ByteArray := ⟨(Lib.cut s.data.toList [46, 46]).1.toArray⟩
def secondV (s : ByteArray) : ByteArray := if (Lib.cut s.data.toList [46, 46]).2.2 then ⟨(Lib.cut s.data.toList [46, 46]).2.1.toArray⟩ else firstV s
def boundsB (s : ByteArray) : Bool := hexB (firstV s) && hexB (secondV s) && decide (hexN (firstV s) ≤ hexN (secondV s))
def boundsLo (s : ByteArray) : Int := if boundsB s then hexN (firstV s) else 0
def boundsHi (s : ByteArray) : Int := if boundsB s then hexN (secondV s) else 0

theorem cut_len (s t : List UInt8) : (Lib.cut s t).1.length ≤ s.length ∧ (Lib.cut s t).2.1.length ≤ s.length := by
 unfold Lib.cut
 split
 ·simp; omega
 ·simp
theorem first_size (s : ByteArray) : (firstV s).size ≤ s.size := by
 show (Lib.cut s.data.toList [46, 46]).1.toArray.size ≤ s.data.size
 have := (cut_len s.data.toList [46, 46]).1
 simpa using this
theorem second_size (s : ByteArray) : (secondV s).size ≤ s.size := by
 unfold secondV
 split
 ·show (Lib.cut s.data.toList [46, 46]).2.1.toArray.size ≤ s.data.size
  have := (cut_len s.data.toList [46, 46]).2
  simpa using this
 ·exact first_size s

theorem below_drewN {w : World} (n : Nat) : Below w.heap.size w (w.drewN n) := by
 induction n generalizing w with
 | zero => exact Below.refl _ _
 | succ n ih => exact ih.drew

set_option maxHeartbeats 1000000 in
theorem bounds_any (s : ByteArray) (w : World) (m : Int) (hs : s.size ≤ 1073741824) (hm : w.cell? ⟨6, 0, none⟩ = some (.int .i64 m)) :
  Calls Tryz.prog 115 #[.string s] w fun e w' => e = .returned (.tuple #[.int .i64 (boundsLo s), .int .i64 (boundsHi s), .bool (boundsB s)]) ∧ Below w.heap.size w w' := by
 have CU := Tryz.strings_Cut s ⟨#[46, 46]⟩ m w (by omega) hm
 have CU2 : Calls Tryz.prog 161 #[.string s, .string ⟨#[46, 46]⟩] w fun e w' => e = .returned (.tuple #[.string (firstV s), .string ⟨(Lib.cut s.data.toList [46, 46]).2.1.toArray⟩, .bool (Lib.cut s.data.toList [46, 46]).2.2]) ∧ Below w.heap.size w w' :=
  CU.mono (fun e w' ⟨h, n, h'⟩ => ⟨h, by rw [h']; exact below_drewN n⟩)
 clear CU
 have z1 := first_size s
 have z2 := second_size s
 have hB : Hid (boundsB s = (hexB (firstV s) && hexB (secondV s) && decide (hexN (firstV s) ≤ hexN (secondV s)))) := rfl
 have hL : Hid (boundsLo s = if boundsB s then hexN (firstV s) else 0) := rfl
 have hH : Hid (boundsHi s = if boundsB s then hexN (secondV s) else 0) := rfl
 have hE : Hid (secondV s = if (Lib.cut s.data.toList [46, 46]).2.2 then ⟨(Lib.cut s.data.toList [46, 46]).2.1.toArray⟩ else firstV s) := rfl
 generalize firstV s = f at *
 generalize secondV s = g at *
 generalize (⟨(Lib.cut s.data.toList [46, 46]).2.1.toArray⟩ : ByteArray) = g0 at *
 generalize (Lib.cut s.data.toList [46, 46]).2.2 = two at *
 generalize boundsLo s = lo at *
 generalize boundsHi s = hi at *
 generalize boundsB s = ok at *
 have fin : ∀ w1, Below w.heap.size w w1 → Calls Tryz.prog 88 #[.string f] w1 fun e w2 => ∃ k, e = .returned (.tuple #[.int .i64 (hexN f), .bool (hexB f)]) ∧ Below w.heap.size w w2 ∧ k = 0 := fun w1 hb =>
  (hex_any f w1 (by omega)).mono (fun e w2 ⟨h, hb2⟩ => ⟨0, h, hb.trans (hb2.mono hb.size), rfl⟩)
 have fin2 : ∀ w1, Below w.heap.size w w1 → Calls Tryz.prog 88 #[.string g] w1 fun e w2 => ∃ k, e = .returned (.tuple #[.int .i64 (hexN g), .bool (hexB g)]) ∧ Below w.heap.size w w2 ∧ k = 0 := fun w1 hb =>
  (hex_any g w1 (by omega)).mono (fun e w2 ⟨h, hb2⟩ => ⟨0, h, hb.trans (hb2.mono hb.size), rfl⟩)
 generalize hexN f = x at *
 generalize hexN g = y at *
 generalize hexB f = a at *
 generalize hexB g = b at *
 go_enter Tryz.func115, Tryz.ntmps115
 go_wp2_with fail
 refine CU2.mono ?_
 rintro e w1 ⟨rfl, hb1⟩
 clear CU2
 cases two with
 | false =>
  have hgf : g = f := by have := hE.out; simpa using this
  subst hgf
  go_wp2_with fail
  refine (fin w1 hb1).mono ?_
  rintro e w2 ⟨k, rfl, hb2, _⟩
  go_wp2_with fail
  refine (fin2 w2 hb2).mono ?_
  rintro e w3 ⟨k, rfl, hb3, _⟩
  have hbf : Hid (Below w.heap.size w w3) := hb3
  clear hb1 hb2 hb3 fin fin2
  cases a with
  | false =>
   obtain rfl : ok = false := by rw [hB.out]; rfl
   obtain rfl : lo = 0 := hL.out
   obtain rfl : hi = 0 := hH.out
   go_wp2
   go_ret3
   exact ⟨rfl, hbf.out⟩
  | true =>
   cases b with
   | false =>
    obtain rfl : ok = false := by rw [hB.out]; rfl
    obtain rfl : lo = 0 := hL.out
    obtain rfl : hi = 0 := hH.out
    go_wp2
    go_ret3
    exact ⟨rfl, hbf.out⟩
   | true =>
    by_cases hxy : x ≤ y
    ·have t1 : decide (y < x) = false := by rw [decide_eq_false_iff_not]; omega
     obtain rfl : ok = true := by rw [hB.out]; simp [hxy]
     obtain rfl : lo = x := by rw [hL.out, if_pos rfl]
     obtain rfl : hi = y := by rw [hH.out, if_pos rfl]
     go_wp2
     go_ret3
     exact ⟨rfl, hbf.out⟩
    ·have t1 : decide (y < x) = true := by rw [decide_eq_true_iff]; omega
     obtain rfl : ok = false := by rw [hB.out]; simp [hxy]
     obtain rfl : lo = 0 := hL.out
     obtain rfl : hi = 0 := hH.out
     go_wp2
     go_ret3
     exact ⟨rfl, hbf.out⟩
 | true =>
  have hgf : g = g0 := by have := hE.out; simpa using this
  subst hgf
  go_wp2_with fail
  refine (fin w1 hb1).mono ?_
  rintro e w2 ⟨k, rfl, hb2, _⟩
  go_wp2_with fail
  refine (fin2 w2 hb2).mono ?_
  rintro e w3 ⟨k, rfl, hb3, _⟩
  have hbf : Hid (Below w.heap.size w w3) := hb3
  clear hb1 hb2 hb3 fin fin2
  cases a with
  | false =>
   obtain rfl : ok = false := by rw [hB.out]; rfl
   obtain rfl : lo = 0 := hL.out
   obtain rfl : hi = 0 := hH.out
   go_wp2
   go_ret3
   exact ⟨rfl, hbf.out⟩
  | true =>
   cases b with
   | false =>
    obtain rfl : ok = false := by rw [hB.out]; rfl
    obtain rfl : lo = 0 := hL.out
    obtain rfl : hi = 0 := hH.out
    go_wp2
    go_ret3
    exact ⟨rfl, hbf.out⟩
   | true =>
    by_cases hxy : x ≤ y
    ·have t1 : decide (y < x) = false := by rw [decide_eq_false_iff_not]; omega
     obtain rfl : ok = true := by rw [hB.out]; simp [hxy]
     obtain rfl : lo = x := by rw [hL.out, if_pos rfl]
     obtain rfl : hi = y := by rw [hH.out, if_pos rfl]
     go_wp2
     go_ret3
     exact ⟨rfl, hbf.out⟩
    ·have t1 : decide (y < x) = true := by rw [decide_eq_true_iff]; omega
     obtain rfl : ok = false := by rw [hB.out]; simp [hxy]
     obtain rfl : lo = 0 := hL.out
     obtain rfl : hi = 0 := hH.out
     go_wp2
     go_ret3
     exact ⟨rfl, hbf.out⟩
end Go.Proofs.YtinlolmjafjhnaaGreatDoor.lin
end

section
/- What lines.recordOf answers of any fields: the record that they say, if they say one. -/
set_option linter.unusedVariables false
set_option linter.unusedSimpArgs false
namespace Go.Proofs.YtinlolmjafjhnaaGreatDoor.lin
open Go.RowKit

/-- Whether fields say a record; its value, where they lie in block g. -/
def recB (fs : List ByteArray) : Bool := decide (2 ≤ fs.length) && boundsB (fs.headD ByteArray.empty)
def recAgg (fs : List ByteArray) (g cap : Nat) : Value :=
 if recB fs then .agg #[.int .i64 (boundsLo (fs.headD ByteArray.empty)), .int .i64 (boundsHi (fs.headD ByteArray.empty)), .slice (some ⟨g, 1, none⟩) (fs.length - 1) (cap - 1)] else .agg #[.int .i64 0, .int .i64 0, .slice none 0 0]

theorem results_row_tmp {P : Program} {fn : Func} {p u : Tmp} {ty : TypeId} (h : fn.results = #[.cell p ty, .tmp u]) (tmps : Array Value) (w : World) (g : Nat) (t : TypeId) (cs : Array Value) (fr : Nat × Nat) (d : TypeDesc)
  (hp : tmps.getD p undef = .pointer (some ⟨g, 0, none⟩)) (hg : w.heap[g]? = some (.cells cs t fr)) (hu : P.underlying ty = some d) (hd : (match d with | .struct _ | .array _ _ => true | _ => false) = true) (hi : (P.info? ty).map (·.size) = some cs.size) :
  (results fn tmps).run P w = .ok (.tuple #[.agg cs, tmps.getD u undef]) w := by
 rw [results_cell_tmp h, hp]
 simp [asAddr, run_loadVar_row w g t ty cs fr d hg hu hd hi, Result.andThen]
theorem row3_set {w : World} {g : Nat} {t : TypeId} {a b c : Value} (h : w.heap[g]? = some (.cells #[a, b, c] t)) (x y z : Value) :
  (((w.setCell ⟨g, 0, none⟩ x).setCell ⟨g, 1, none⟩ y).setCell ⟨g, 2, none⟩ z).heap[g]? = some (.cells #[x, y, z] t) := by
 have h1 := heap_setCell_same w g 0 _ t x h
 have h2 := heap_setCell_same _ g 1 _ t y h1
 have h3 := heap_setCell_same _ g 2 _ t z h2
 simpa using h3
theorem below3_set {w w1 : World} (h : Below w.heap.size w w1) (x y z : Value) :
  Below w.heap.size w (((w1.setCell ⟨w.heap.size, 0, none⟩ x).setCell ⟨w.heap.size, 1, none⟩ y).setCell ⟨w.heap.size, 2, none⟩ z) :=
 ((h.setCell (p := ⟨w.heap.size, 0, none⟩) (Nat.le_refl _) x).setCell (p := ⟨w.heap.size, 1, none⟩) (Nat.le_refl _) y).setCell (p := ⟨w.heap.size, 2, none⟩) (Nat.le_refl _) z
theorem infoRec : (Tryz.prog.info? 98).map (·.size) = some 3 := by kernel_rfl

theorem recB_cons (f : ByteArray) (fs : List ByteArray) : recB (f :: fs) = (decide (1 ≤ fs.length) && boundsB f) := by
 show (decide (2 ≤ fs.length + 1) && boundsB f) = _
 congr 1
 exact decide_eq_decide.2 ⟨fun h => by omega, fun h => by omega⟩
theorem recAgg_cons (f : ByteArray) (fs : List ByteArray) (g cap : Nat) : recAgg (f :: fs) g cap =
  if (decide (1 ≤ fs.length) && boundsB f) then .agg #[.int .i64 (boundsLo f), .int .i64 (boundsHi f), .slice (some ⟨g, 1, none⟩) fs.length (cap - 1)] else .agg #[.int .i64 0, .int .i64 0, .slice none 0 0] := by
 unfold recAgg
 rw [recB_cons]
 rfl

set_option maxHeartbeats 1000000 in
theorem record_any (f : ByteArray) (fs : List ByteArray) (g cap : Nat) (w : World) (m : Int) (hg : w.cell? ⟨g, 0, none⟩ = some (.string f)) (hsz : f.size ≤ 1073741824) (hn : fs.length + 1 ≤ cap) (hcap : cap ≤ maxLen)
  (hm : w.cell? ⟨6, 0, none⟩ = some (.int .i64 m)) (hm2 : 6 < w.heap.size) (hg2 : g < w.heap.size) :
  Calls Tryz.prog 79 #[.slice (some ⟨g, 0, none⟩) (fs.length + 1) cap] w fun e w' => e = .returned (.tuple #[recAgg (f :: fs) g cap, .bool (recB (f :: fs))]) ∧ Below w.heap.size w w' := by
 have hm1 : (w.alloc (.cells #[.int .i64 0, .int .i64 0, .slice none 0 0] 98)).cell? ⟨6, 0, none⟩ = some (.int .i64 m) := by
  rw [World.cell?_of_block (w := w) (Below.heap_alloc _ _ _ hm2)]; exact hm
 have BO := bounds_any f (w.alloc (.cells #[.int .i64 0, .int .i64 0, .slice none 0 0] 98)) m hsz hm1
 have hg1 : (w.alloc (.cells #[.int .i64 0, .int .i64 0, .slice none 0 0] 98)).cell? ⟨g, 0, none⟩ = some (.string f) := by
  rw [World.cell?_of_block (w := w) (Below.heap_alloc _ _ _ hg2)]; exact hg
 have HRA : Hid _ := recAgg_cons f fs g cap
 have HRB : Hid _ := recB_cons f fs
 generalize recAgg (f :: fs) g cap = RA at *
 generalize recB (f :: fs) = RB at *
 generalize boundsB f = ok at *
 generalize boundsLo f = lo at *
 generalize boundsHi f = hi at *
 go_enter Tryz.func79, Tryz.ntmps79
 go_wp2_with fail
 refine BO.mono ?_
 rintro e w1 ⟨rfl, hb1⟩
 have hrow : w1.heap[w.heap.size]? = some (.cells #[.int .i64 0, .int .i64 0, .slice none 0 0] 98) := (hb1.block _ (by simp)).trans (heap_alloc_new w _)
 have k0 := cell_of_row w1 w.heap.size 0 _ _ _ hrow
 have k1 := cell_of_row w1 w.heap.size 1 _ _ _ hrow
 have k2 := cell_of_row w1 w.heap.size 2 _ _ _ hrow
 have f0 := frozen_of_row w1 w.heap.size 0 _ _ hrow
 have f1 := frozen_of_row w1 w.heap.size 1 _ _ hrow
 have f2 := frozen_of_row w1 w.heap.size 2 _ _ hrow
 simp at k0 k1 k2
 have hbb : Below w.heap.size w w1 := ((Below.refl _ w).alloc (Nat.le_refl _) _).trans (hb1.mono (by simp))
 clear BO hm1 hg1 hb1
 cases ok with
 | false =>
  obtain rfl : RA = .agg #[.int .i64 0, .int .i64 0, .slice none 0 0] := by rw [HRA.out, if_neg (by simp)]
  obtain rfl : RB = false := by rw [HRB.out]; simp
  clear HRA HRB
  go_wp2
  refine bodyPost_ret (results_row_tmp Tryz.results79 _ _ w.heap.size _ _ _ _ rfl (row3_set hrow _ _ _) Tryz.underlying98 rfl infoRec) rfl ?_
  exact ⟨rfl, below3_set hbb _ _ _⟩
 | true =>
  by_cases h1 : 1 ≤ fs.length
  ·have t1 : decide ((fs.length : Int) + 1 < 2) = false := by rw [decide_eq_false_iff_not]; omega
   obtain rfl : RA = .agg #[.int .i64 lo, .int .i64 hi, .slice (some ⟨g, 1, none⟩) fs.length (cap - 1)] := by rw [HRA.out, if_pos (by simp [h1])]
   obtain rfl : RB = true := by rw [HRB.out]; simp [h1]
   clear HRA HRB
   go_wp2
   refine bodyPost_ret (results_row_tmp Tryz.results79 _ _ w.heap.size _ _ _ _ rfl (row3_set hrow _ _ _) Tryz.underlying98 rfl infoRec) rfl ?_
   exact ⟨rfl, below3_set hbb _ _ _⟩
  ·have t1 : decide ((fs.length : Int) + 1 < 2) = true := by rw [decide_eq_true_iff]; omega
   obtain rfl : RA = .agg #[.int .i64 0, .int .i64 0, .slice none 0 0] := by rw [HRA.out, if_neg (by simp [h1])]
   obtain rfl : RB = false := by rw [HRB.out]; simp [h1]
   clear HRA HRB
   go_wp2
   refine bodyPost_ret (results_row_tmp Tryz.results79 _ _ w.heap.size _ _ _ _ rfl (row3_set hrow _ _ _) Tryz.underlying98 rfl infoRec) rfl ?_
   exact ⟨rfl, below3_set hbb _ _ _⟩
end Go.Proofs.YtinlolmjafjhnaaGreatDoor.lin
end

section
/- Records in memory: what lines.Parse answers, as plain lists; how they lie. -/
set_option linter.unusedVariables false
set_option linter.unusedSimpArgs false
namespace Go.Proofs.YtinlolmjafjhnaaGreatDoor.lin
open Go.RowKit

/-- Strings fs lie in one block of strings from base on, and v is the slice of them. -/
def FAt (w : World) (base : Nat) (v : Value) (fs : List ByteArray) : Prop :=
 ∃ g off cap cur, v = .slice (some ⟨g, off, none⟩) fs.length cap ∧ base ≤ g ∧ w.heap[g]? = some (.cells cur 9 (0, 0)) ∧ ∀ j, j < fs.length → cur[off + j]? = some (.string (fs.getD j ByteArray.empty))
theorem FAt.lower {w : World} {base base2 : Nat} {v : Value} {fs : List ByteArray} (h : FAt w base2 v fs) (hb : base ≤ base2) : FAt w base v fs := by
 obtain ⟨g, off, cap, cur, rfl, hg, rest⟩ := h
 exact ⟨g, off, cap, cur, rfl, by omega, rest⟩
theorem FAt.kept {A B : World} {base : Nat} {v : Value} {fs : List ByteArray} (h : FAt A base v fs) (hb : Below A.heap.size A B) : FAt B base v fs := by
 obtain ⟨g, off, cap, cur, rfl, hg, hgg, hc⟩ := h
 exact ⟨g, off, cap, cur, rfl, hg, (hb.block g (Array.getElem?_eq_some_iff.1 hgg).1).trans hgg, hc⟩
theorem own_typed {w : World} {base e size n : Nat} {v : Value} {xs : List Value} (ho : w.ownsRow base e size v n xs) : ∀ k, v.ownBlock = some k → ∃ cur, w.heap[k]? = some (.cells cur e (0, 0)) := by
 intro k e
 rcases ho.2 with hn | ⟨g', cap', cur', hv', h1, h2, _⟩
 ·rw [hn.1] at e; cases e
 ·rw [hv'] at e; cases e; exact ⟨_, h2⟩
/-- A record: its bounds, its fields' value, its fields. -/
structure RR where
 lo : Int
 hi : Int
 fv : Value
 fs : List ByteArray
abbrev RecT := Int × Int × List ByteArray
def RR.plain (q : RR) : RecT := (q.lo, q.hi, q.fs)
def flatR (L : List RR) : List Value := L.flatMap fun q => [.int .i64 q.lo, .int .i64 q.hi, q.fv]
/-- v is a slice of records rs, a row of its own from base on. -/
def Recs (w : World) (base : Nat) (v : Value) (rs : List RecT) : Prop :=
 ∃ L : List RR, L.map RR.plain = rs ∧ w.ownsRow base 98 3 v L.length (flatR L) ∧ ∀ q ∈ L, FAt w base q.fv q.fs

theorem FAt.turns {D : Nat → Prop} {A B : World} {base : Nat} {v : Value} {fs : List ByteArray} (h : FAt A base v fs) (t : Turns D A B) (hd : ∀ k, D k → k < base ∨ (∃ cur, A.heap[k]? = some (.cells cur 98 (0, 0)))) : FAt B base v fs := by
 obtain ⟨g, off, cap, cur, rfl, hg, hgg, hc⟩ := h
 refine ⟨g, off, cap, cur, rfl, hg, (t.block g (Array.getElem?_eq_some_iff.1 hgg).1 (fun d => ?_)).trans hgg, hc⟩
 rcases hd g d with h | ⟨cur', h⟩
 ·omega
 ·rw [hgg] at h; cases h
theorem Recs.turns {D : Nat → Prop} {A B : World} {base : Nat} {v : Value} {rs : List RecT} (h : Recs A base v rs) (t : Turns D A B) (hd : ∀ k, D k → k < base) : Recs B base v rs := by
 obtain ⟨L, hL, ho, hf⟩ := h
 exact ⟨L, hL, t.own ho (fun k e d => by have := (ho.lt k e).1; have := hd k d; omega), fun q hq => (hf q hq).turns t (fun k d => .inl (hd k d))⟩
theorem Recs.nil (w : World) (base : Nat) : Recs w base (.slice none 0 0) [] := ⟨[], rfl, World.ownsRow_nil _ _ _ _, fun _ h => by cases h⟩
theorem flatR_append (L M : List RR) : flatR (L ++ M) = flatR L ++ flatR M := by simp [flatR]
/-- A line says nothing, or a record. -/
def lineOk (x : ByteArray) : Bool := (fieldsV x).length == 0 || recB (fieldsV x)
def recV (fs : List ByteArray) : RecT := (boundsLo (fs.headD ByteArray.empty), boundsHi (fs.headD ByteArray.empty), fs.tail)
def lineRecs (x : ByteArray) : List RecT := if (fieldsV x).length = 0 then [] else [recV (fieldsV x)]
def recsOf (ls : List ByteArray) : List RecT := ls.flatMap lineRecs
/-- What a file says: its records, or the number of the first line that can't be, and the error. -/
def parseV (s : ByteArray) : List RecT × Nat × Int :=
 if (cutV s 10).all lineOk then (recsOf (cutV s 10), 0, 0) else ([], (cutV s 10).findIdx (fun x => !lineOk x) + 1, 20)

theorem recsOf_snoc (pre : List ByteArray) (x : ByteArray) : recsOf (pre ++ [x]) = recsOf pre ++ lineRecs x := by simp [recsOf]
theorem recsOf_len (pre : List ByteArray) : (recsOf pre).length ≤ pre.length := by
 induction pre with
 | nil => exact Nat.le_refl _
 | cons x pre ih =>
  have : (lineRecs x).length ≤ 1 := by unfold lineRecs; split <;> simp
  simp only [recsOf, List.flatMap_cons, List.length_append, List.length_cons] at *
  omega
theorem cuts_len (s : ByteArray) (b : Int) : ∀ k p a, (cuts s b k p a).length ≤ k + 1 := by
 intro k
 induction k with
 | zero => intro p a; simp [cuts]
 | succ k ih =>
  intro p a
  rw [cuts]
  split
  ·have := ih (p + 1) (p + 1); simp; omega
  ·have := ih (p + 1) a; omega
theorem cuts_size (s : ByteArray) (b : Int) : ∀ k p a, ∀ x ∈ cuts s b k p a, x.size ≤ s.size := by
 intro k
 induction k with
 | zero => intro p a x hx; simp [cuts] at hx; subst hx; rw [ByteArray.size_extract]; omega
 | succ k ih =>
  intro p a x hx
  rw [cuts] at hx
  split at hx
  ·rcases List.mem_cons.1 hx with rfl | hx
   ·rw [ByteArray.size_extract]; omega
   ·exact ih _ _ x hx
  ·exact ih _ _ x hx

/-- A line's fields are no longer than it. -/
theorem scan_sizes (s : ByteArray) : ∀ k p st out, (∀ x ∈ out, x.size ≤ s.size) → ∀ x ∈ close s (scan s k p st out), x.size ≤ s.size := by
 have hc : ∀ out st en, (∀ x ∈ out, x.size ≤ s.size) → ∀ x ∈ close s (out, st, en), x.size ≤ s.size := by
  intro out st en ho x hx
  unfold close at hx
  split at hx
  ·cases hx
  ·rcases List.mem_append.1 hx with hx | hx
   ·exact ho x hx
   ·obtain rfl := List.mem_singleton.1 hx
    have := trim_size (s.extract st en)
    rw [ByteArray.size_extract] at this
    show (trim (s.extract st en)).size ≤ _
    omega
 intro k
 induction k with
 | zero => intro p st out ho; exact hc out st s.size ho
 | succ k ih =>
  intro p st out ho
  rw [scan]
  split
  ·exact hc out st p ho
  ·split
   ·refine ih _ _ _ (fun x hx => ?_)
    rcases List.mem_append.1 hx with hx | hx
    ·exact ho x hx
    ·obtain rfl := List.mem_singleton.1 hx
     have := trim_size (s.extract st p)
     rw [ByteArray.size_extract] at this
     omega
   ·exact ih _ _ _ ho
theorem fields_sizes (s : ByteArray) : ∀ x ∈ fieldsV s, x.size ≤ s.size := scan_sizes s _ _ _ _ (fun _ h => by cases h)
theorem scan_len (s : ByteArray) : ∀ k p st out, (close s (scan s k p st out)).length ≤ out.length + k + 1 := by
 have hc : ∀ out st en, (close s (out, st, en)).length ≤ out.length + 1 := by
  intro out st en
  unfold close
  split
  ·simp
  ·simp
 intro k
 induction k with
 | zero => intro p st out; exact hc out st _
 | succ k ih =>
  intro p st out
  rw [scan]
  split
  ·have := hc out st p; omega
  ·split
   ·have := ih (p + 1) (p + 1) (out ++ [trim (s.extract st p)]); simp at this; omega
   ·have := ih (p + 1) st out; omega
theorem fields_len (s : ByteArray) : (fieldsV s).length ≤ s.size + 1 := by
 have := scan_len s s.size 0 0 []
 simp at this
 exact this
end Go.Proofs.YtinlolmjafjhnaaGreatDoor.lin
end
