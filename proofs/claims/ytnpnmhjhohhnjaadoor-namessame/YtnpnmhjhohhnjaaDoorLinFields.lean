/- What lines.fieldsOf answers of any line: its fields, trimmed, up to a remark; none, if it says nothing. -/
import Derived.Test.YtnpnmhjhohhnjaaDoorLinTrim
import Derived.WalkSmall
import Derived.Deep.LoopGhost
import Derived.Lib.OthersKept
import Derived.Maps.AppendAt
set_option linter.unusedVariables false
set_option linter.unusedSimpArgs false
namespace Go.Proofs.YtnpnmhjhohhnjaaDoor.lin
open Go.RowKit

/-- The fields that are over, where the last one begins and ends. -/
def scan (s : ByteArray) : Nat → Nat → Nat → List ByteArray → List ByteArray × Nat × Nat
  | 0, _, st, out => (out, st, s.size)
  | k + 1, p, st, out => if at8 s p = 35 then (out, st, p) else if at8 s p = 59 then scan s k (p + 1) (p + 1) (out ++ [trim (s.extract st p)]) else scan s k (p + 1) st out
/-- A line's fields. -/
def close (s : ByteArray) (x : List ByteArray × Nat × Nat) : List ByteArray := if x.1.length = 0 ∧ (trim (s.extract x.2.1 x.2.2)).size = 0 then [] else x.1 ++ [trim (s.extract x.2.1 x.2.2)]
def fieldsV (s : ByteArray) : List ByteArray := close s (scan s s.size 0 0 [])

theorem scan_hash (s : ByteArray) (k p st : Nat) (out : List ByteArray) (hk : k ≠ 0) (h : at8 s p = 35) : scan s k p st out = (out, st, p) := by
  cases k with
  | zero => omega
  | succ k => rw [scan, if_pos h]
theorem scan_semi (s : ByteArray) (k p st : Nat) (out : List ByteArray) (hk : k ≠ 0) (h : at8 s p = 59) : scan s k p st out = scan s (k - 1) (p + 1) (p + 1) (out ++ [trim (s.extract st p)]) := by
  cases k with
  | zero => omega
  | succ k => rw [scan, if_neg (by omega), if_pos h]; rfl
theorem scan_else (s : ByteArray) (k p st : Nat) (out : List ByteArray) (hk : k ≠ 0) (h : at8 s p ≠ 35) (h' : at8 s p ≠ 59) : scan s k p st out = scan s (k - 1) (p + 1) st out := by
  cases k with
  | zero => omega
  | succ k => rw [scan, if_neg h, if_neg h']; rfl
theorem scan_skip (s : ByteArray) : ∀ q p st out, (∀ j, p ≤ j → j < p + q → j < s.size → 128 ≤ at8 s j) → scan s (s.size - p) p st out = scan s (s.size - (p + q)) (p + q) st out := by
  intro q
  induction q with
  | zero => intro p st out _; rfl
  | succ q ih =>
    intro p st out h
    rcases Nat.lt_or_ge p s.size with hp | hp
    · have h0 := h p (Nat.le_refl _) (by omega) hp
      rw [scan_else s (s.size - p) p st out (by omega) (by omega) (by omega), show s.size - p - 1 = s.size - (p + 1) from by omega, ih (p + 1) st out (fun j a b c => h j (by omega) (by omega) c)]
      rw [show p + 1 + q = p + (q + 1) from by omega]
    · rw [show s.size - p = 0 from by omega, show s.size - (p + (q + 1)) = 0 from by omega]
      rfl

theorem get_at8 (s : ByteArray) (j : Nat) (h : j < s.size) : ((s.get! j).toNat : Int) = at8 s j := by
  rw [at8_eq s j h]
  have : s.get! j = s[j]'h := by simp [ByteArray.get!, getElem!_pos, h]; rfl
  rw [this]

theorem decode_tail (s : ByteArray) (p j : Nat) (h1 : p < j) (h2 : j < p + (Utf8.decode s p).2) : 128 ≤ (s.get! j).toNat := by
  simp only [Utf8.decode] at h2
  repeat' split at h2
  all_goals simp only [Bool.and_eq_true, decide_eq_true_eq, beq_iff_eq] at *
  all_goals (rcases (show j = p + 1 ∨ j = p + 2 ∨ j = p + 3 from by omega) with rfl | rfl | rfl <;> omega)

theorem infoStr : (Tryd.prog.info? 9).map (fun i => (i.zero, i.size, i.bytes)) = some (some (.string ByteArray.empty), 1, 16) := by kernel_rfl

/-- The end of fieldsOf, as lemmas over the list: what is answered. -/
theorem own_below {w w' : World} {B e size n : Nat} {v : Value} {xs : List Value} (h : w.ownsRow B e size v n xs) (hb : Below w.heap.size w w') : w'.ownsRow B e size v n xs := by
  refine ⟨h.1, ?_⟩
  rcases h.2 with hn | ⟨g, cap, cur, rfl, hg, hgg, rest⟩
  · exact .inl hn
  · exact .inr ⟨g, cap, cur, rfl, hg, by rw [hb.block g (Array.getElem?_eq_some_iff.1 hgg).1]; exact hgg, rest⟩
theorem own_slice {w : World} {B e size n : Nat} {v : Value} {xs : List Value} (h : w.ownsRow B e size v n xs) : ∃ a c, v = .slice a n c := by
  rcases h.2 with hn | ⟨g, cap, cur, rfl, _⟩
  · obtain ⟨rfl, rfl⟩ := hn; exact ⟨_, _, rfl⟩
  · exact ⟨_, _, rfl⟩
theorem isEmpty_of {t : ByteArray} (h : t.size = 0) : t.toList.isEmpty = true := by
  rw [Lib.toList_data]
  have : t.data.toList = [] := List.eq_nil_of_length_eq_zero (by rw [Array.length_toList]; exact h)
  rw [this]; rfl
theorem isEmpty_not {t : ByteArray} (h : ¬ t.size = 0) : t.toList.isEmpty = false := by
  rw [Lib.toList_data]
  cases hl : t.data.toList with
  | nil => exact absurd (by show t.data.size = 0; rw [← Array.length_toList, hl]; rfl) h
  | cons x l => rfl
theorem close_nil {s : ByteArray} {out : List ByteArray} {st en : Nat} (h0 : out.length = 0) (ht : (trim (s.extract st en)).size = 0) : close s (out, st, en) = [] := by
  unfold close; rw [if_pos ⟨h0, ht⟩]
theorem close_more {s : ByteArray} {out : List ByteArray} {st en : Nat} (h : ¬ (out.length = 0 ∧ (trim (s.extract st en)).size = 0)) : close s (out, st, en) = out ++ [trim (s.extract st en)] := by
  unfold close; rw [if_neg h]

set_option maxHeartbeats 2000000 in
set_option maxRecDepth 100000 in
theorem fields_any (s : ByteArray) (w : World) (hs : s.size ≤ 1099511627776) :
    Calls Tryd.prog 58 #[.string s] w fun e w' => ∃ v, e = .returned v ∧ w'.ownsRow (w.heap.size + 1) 9 1 v (fieldsV s).length ((fieldsV s).map Value.string) ∧ Below w.heap.size w w' := by
  obtain ⟨i0, hi, hz0, hy1, hz2⟩ := info_parts infoStr
  go_enter Tryd.func58, Tryd.ntmps58
  go_wp2
  go_step3
  go_wp2
  go_step3
  go_wp2
  go_loopg [3, 4, 5] s.size (fun k v t e wr => ∃ (p st : Nat) (out : List ByteArray), k = s.size - p ∧ t = .int .i64 st ∧ e = .int .i64 s.size ∧ st ≤ s.size ∧ st ≤ p ∧ out.length ≤ st ∧ Hid (wr.heap[w.heap.size]? = some (.stringIter s p)) ∧ wr.ownsRow (w.heap.size + 1) 9 1 v out.length (out.map Value.string) ∧ Hid (scan s (s.size - p) p st out = scan s s.size 0 0 []) ∧ Below w.heap.size w wr)
  case atStart => exact ⟨0, 0, [], by omega, rfl, rfl, Nat.zero_le _, Nat.le_refl _, Nat.le_refl _, World.iter_heap w s 0, World.ownsRow_nil _ _ _ _, rfl, (Below.refl _ _).alloc (Nat.le_refl _) _⟩
  case round =>
    obtain ⟨p, st, out, hgk, rfl, rfl, hst, hsp, hol, HIT, hown, HSC, hbel⟩ := hrel
    have HGK : Hid (gk = s.size - p) := hgk
    clear hgk
    obtain ⟨sa, sc, rfl⟩ := own_slice hown
    by_cases hp : p < s.size
    · have he := at8_eq s p hp
      have hit2 := Lib.iterAt_heap wr w.heap.size s p (p + (Utf8.decode s p).2) HIT.out
      have hb2 := Lib.below_iterAt hbel (k := w.heap.size) (Nat.le_refl _) s (p + (Utf8.decode s p).2)
      have hown2 := ownsRow_iterAt hown (k := w.heap.size) (by omega) s (p + (Utf8.decode s p).2)
      have hsz2 : (wr.iterAt w.heap.size s (p + (Utf8.decode s p).2)).heap.size = wr.heap.size := Lib.iterAt_size _ _ _ _
      have hnx := fun ty => Lib.run_next_any_at (P := Tryd.prog) wr w.heap.size s p ty HIT.out hp
      by_cases ha : (s[p]'hp).toNat < 128
      · rw [decode_ascii s p hp ha] at hnx hit2 hb2 hown2 hsz2
        by_cases h35 : (s[p]'hp).toNat = 35
        · have t1 : ((((s[p]'hp).toNat : Nat) : Int) == 35) = true := by simp; omega
          have HS2 : Hid (fieldsV s = close s (out, st, p)) := by
            unfold Hid fieldsV; rw [← HSC.out, scan_hash s _ p st out (by omega) (by rw [he]; omega)]
          have TM := trimmed_any (s.extract st p) (wr.iterAt w.heap.size s (p + 1)) (by rw [ByteArray.size_extract]; omega)
          have hlt : w.heap.size < (wr.iterAt w.heap.size s (p + 1)).heap.size := (Array.getElem?_eq_some_iff.1 hit2).1
          clear HSC hown hbel he hit2 HIT
          generalize hr : (s[p]'hp).toNat = r at *
          clear hr
          generalize hW : wr.iterAt w.heap.size s (p + 1) = W at *
          go_wp2_with fail
          refine TM.mono ?_
          rintro e w2 ⟨rfl, hb3⟩
          have b3 := hb2.trans (hb3.mono hb2.size)
          have hown3 := own_below hown2 hb3
          have hs3 := b3.size
          have hbs := hb3.size
          have hit3 : w.heap.size + 1 ≤ w2.heap.size := by omega
          have HCN := @close_nil s out st p
          have HCM := @close_more s out st p
          have HC1 : Hid (out.length = 0 → (trim (s.extract st p)).size = 0 → close s (out, st, p) = []) := fun a b => close_nil a b
          have HC2 : Hid (¬ (out.length = 0 ∧ (trim (s.extract st p)).size = 0) → close s (out, st, p) = out ++ [trim (s.extract st p)]) := fun a => close_more a
          clear TM hb3 hb2 hown2 HCN HCM
          generalize trim (s.extract st p) = t at *
          by_cases hz : out.length = 0 ∧ t.size = 0
          · have z1 : ((out.length : Int) == 0) = true := by rw [hz.1]; rfl
            have z2 : t.toList.isEmpty = true := isEmpty_of hz.2
            have HF : Hid (fieldsV s = []) := HS2.out.trans (HC1.out hz.1 hz.2)
            clear hz HC1 HC2 hown3
            go_wp2
            try rw [Exit.noGoto_ret]
            go_ret
            exact ⟨_, rfl, by rw [HF.out]; exact World.ownsRow_nil _ _ _ _, b3⟩
          · have HF : Hid (fieldsV s = out ++ [t]) := HS2.out.trans (HC2.out hz)
            clear HC1 HC2
            have HW : Hid (∀ k, (Value.slice sa out.length sc).ownBlock = some k → w.heap.size + 1 ≤ k) := fun k e => (hown3.lt _ e).1
            by_cases hz1 : out.length = 0
            · have z1 : ((out.length : Int) == 0) = true := by rw [hz1]; rfl
              have z2 : t.toList.isEmpty = false := isEmpty_not (fun h => hz ⟨hz1, h⟩)
              clear hz hz1
              go_wp2_with (at_builtin; refine wpList_append_own _ rfl _ _ 34 rfl (w.heap.size + 1) 9 i0 (.string ByteArray.empty) 1 16 Tryd.underlying34 hi hz0 hy1 hz2 rfl (by decide) _ _ _ rfl (hown3.alloc _) ⟨w2.heap.size, 0, none⟩ 1 1 [.string t] rfl rfl (cell_one_new _ _ _) (by simp [Value.oneCell']) (by unfold maxLen; omega) (by omega) (by simp; omega) ?_)
              intro v' w3 hown4 hgrow _
              have R1 := (b3.alloc hs3 (.cells #[.string t] 9)).grown hgrow (by simp; omega) (fun k e => by have := HW.out k e; omega)
              clear hgrow hown3
              go_wp2
              try rw [Exit.noGoto_ret]
              go_ret
              exact ⟨_, rfl, by rw [HF.out, List.length_append, List.map_append]; exact hown4, R1⟩
            · have z1 : ((out.length : Int) == 0) = false := by rw [beq_eq_false_iff_ne]; omega
              clear hz
              go_wp2_with (at_builtin; refine wpList_append_own _ rfl _ _ 34 rfl (w.heap.size + 1) 9 i0 (.string ByteArray.empty) 1 16 Tryd.underlying34 hi hz0 hy1 hz2 rfl (by decide) _ _ _ rfl (hown3.alloc _) ⟨w2.heap.size, 0, none⟩ 1 1 [.string t] rfl rfl (cell_one_new _ _ _) (by simp [Value.oneCell']) (by unfold maxLen; omega) (by omega) (by simp; omega) ?_)
              intro v' w3 hown4 hgrow _
              have R1 := (b3.alloc hs3 (.cells #[.string t] 9)).grown hgrow (by simp; omega) (fun k e => by have := HW.out k e; omega)
              clear hgrow hown3
              go_wp2
              try rw [Exit.noGoto_ret]
              go_ret
              exact ⟨_, rfl, by rw [HF.out, List.length_append, List.map_append]; exact hown4, R1⟩
        · by_cases h59 : (s[p]'hp).toNat = 59
          · have t1 : ((((s[p]'hp).toNat : Nat) : Int) == 35) = false := by simp; omega
            have t2 : ((((s[p]'hp).toNat : Nat) : Int) == 59) = true := by simp; omega
            have HS2 : Hid (scan s (s.size - (p + 1)) (p + 1) (p + 1) (out ++ [trim (s.extract st p)]) = scan s s.size 0 0 []) := by
              have := scan_semi s (s.size - p) p st out (by omega) (by rw [he]; omega)
              rw [show s.size - p - 1 = s.size - (p + 1) from by omega] at this
              exact this.symm.trans HSC.out
            have HT2 : Hid ((wr.iterAt w.heap.size s (p + 1)).heap[w.heap.size]? = some (.stringIter s (p + 1))) := hit2
            have TM := trimmed_any (s.extract st p) (wr.iterAt w.heap.size s (p + 1)) (by rw [ByteArray.size_extract]; omega)
            clear hit2 HSC hown hbel he HIT
            generalize hr : (s[p]'hp).toNat = r at *
            clear hr
            generalize hW : wr.iterAt w.heap.size s (p + 1) = W at *
            clear hW
            go_wp2_with fail
            refine TM.mono ?_
            rintro e w2 ⟨rfl, hb3⟩
            have b3 := hb2.trans (hb3.mono hb2.size)
            have hown3 := own_below hown2 hb3
            have hs3 := b3.size
            have hlt := (Array.getElem?_eq_some_iff.1 HT2.out).1
            have hit3 : w.heap.size + 1 ≤ w2.heap.size := by have := hb3.size; omega
            have HT3 : Hid (w2.heap[w.heap.size]? = some (.stringIter s (p + 1))) := (hb3.block _ hlt).trans HT2.out
            have HW : Hid (∀ k, (Value.slice sa out.length sc).ownBlock = some k → w.heap.size + 1 ≤ k) := fun k e => (hown3.lt _ e).1
            clear TM hb3 hb2 hown2 HT2
            generalize trim (s.extract st p) = t at *
            go_wp2_with (at_builtin; refine wpList_append_own _ rfl _ _ 34 rfl (w.heap.size + 1) 9 i0 (.string ByteArray.empty) 1 16 Tryd.underlying34 hi hz0 hy1 hz2 rfl (by decide) _ _ _ rfl (hown3.alloc _) ⟨w2.heap.size, 0, none⟩ 1 1 [.string t] rfl rfl (cell_one_new _ _ _) (by simp [Value.oneCell']) (by unfold maxLen; omega) (by omega) (by simp; omega) ?_)
            intro v' w3 hown4 hgrow _
            have R1 := (b3.alloc hs3 (.cells #[.string t] 9)).grown hgrow (by simp; omega) (fun k e => by have := HW.out k e; omega)
            have R2 : Hid (w3.heap[w.heap.size]? = some (.stringIter s (p + 1))) := by
              refine (hgrow.block w.heap.size (by simp; omega) (fun e => by have := HW.out _ e.symm; omega)).trans ?_
              rw [Below.heap_alloc _ _ _ (by omega)]
              exact HT3.out
            have R3 : w3.ownsRow (w.heap.size + 1) 9 1 v' (out ++ [t]).length ((out ++ [t]).map Value.string) := by
              rw [List.length_append, List.map_append]; exact hown4
            clear hgrow hown3 hown4 HT3
            go_wp2
            go_roundg (s.size - (p + 1))
            case measure => have := HGK.out; omega
            case rel => exact ⟨p + 1, p + 1, out ++ [t], rfl, by go_num, rfl, by omega, Nat.le_refl _, by simp; omega, R2, R3, HS2, R1⟩
          · have HS2 : Hid (scan s (s.size - (p + 1)) (p + 1) st out = scan s s.size 0 0 []) := by
              have := scan_else s (s.size - p) p st out (by omega) (by rw [he]; omega) (by rw [he]; omega)
              rw [show s.size - p - 1 = s.size - (p + 1) from by omega] at this
              exact this.symm.trans HSC.out
            have HT2 : Hid ((wr.iterAt w.heap.size s (p + 1)).heap[w.heap.size]? = some (.stringIter s (p + 1))) := hit2
            have t1 : ((((s[p]'hp).toNat : Nat) : Int) == 35) = false := by simp; omega
            have t2 : ((((s[p]'hp).toNat : Nat) : Int) == 59) = false := by simp; omega
            clear hit2 HSC hown hbel he HIT
            generalize hr : (s[p]'hp).toNat = r at *
            clear hr
            generalize hW : wr.iterAt w.heap.size s (p + 1) = W at *
            go_wp2
            go_roundg (s.size - (p + 1))
            case measure => have := HGK.out; omega
            case rel => exact ⟨p + 1, st, out, rfl, rfl, rfl, hst, by omega, hol, HT2, hown2, HS2, hb2⟩
      · have hge := decode_high s p hp (by omega)
        have HS2 : Hid (scan s (s.size - (p + (Utf8.decode s p).2)) (p + (Utf8.decode s p).2) st out = scan s s.size 0 0 []) := by
          refine (scan_skip s (Utf8.decode s p).2 p st out (fun j h1 h2 h3 => ?_)).symm.trans HSC.out
          rcases Nat.eq_or_lt_of_le h1 with rfl | h4
          · rw [he]; omega
          · have := decode_tail s p j h4 h2
            have e := get_at8 s j h3
            omega
        have HT2 : Hid ((wr.iterAt w.heap.size s (p + (Utf8.decode s p).2)).heap[w.heap.size]? = some (.stringIter s (p + (Utf8.decode s p).2))) := hit2
        have t1 : (((Utf8.decode s p).1 : Int) == 35) = false := by simp; omega
        have t2 : (((Utf8.decode s p).1 : Int) == 59) = false := by simp; omega
        obtain ⟨_, hq⟩ := hge
        clear hit2 HSC hown hbel he
        generalize hr : (Utf8.decode s p).1 = r at *
        generalize hqq : (Utf8.decode s p).2 = q at *
        clear hr hqq
        generalize hW : wr.iterAt w.heap.size s (p + q) = W at *
        go_wp2
        go_roundg (s.size - (p + q))
        case measure => have := HGK.out; omega
        case rel => exact ⟨p + q, st, out, rfl, rfl, rfl, hst, by omega, hol, HT2, hown2, HS2, hb2⟩
    · have hnx := fun ty => Lib.run_next_end_at (P := Tryd.prog) wr w.heap.size s p ty HIT.out hp
      have HS2 : Hid (fieldsV s = close s (out, st, s.size)) := by
        unfold Hid fieldsV; rw [← HSC.out, show s.size - p = 0 from by omega]; rfl
      have TM := trimmed_any (s.extract st s.size) wr (by rw [ByteArray.size_extract]; omega)
      have hb2 := hbel
      have hown2 := hown
      have hlt : w.heap.size < wr.heap.size := (Array.getElem?_eq_some_iff.1 HIT.out).1
      clear HSC HIT hbel hown
      go_wp2_with fail
      refine TM.mono ?_
      rintro e w2 ⟨rfl, hb3⟩
      have b3 := hb2.trans (hb3.mono hb2.size)
      have hown3 := own_below hown2 hb3
      have hs3 := b3.size
      have hbs := hb3.size
      have hit3 : w.heap.size + 1 ≤ w2.heap.size := by omega
      have HCN := @close_nil s out st s.size
      have HCM := @close_more s out st s.size
      have HC1 : Hid (out.length = 0 → (trim (s.extract st s.size)).size = 0 → close s (out, st, s.size) = []) := fun a b => close_nil a b
      have HC2 : Hid (¬ (out.length = 0 ∧ (trim (s.extract st s.size)).size = 0) → close s (out, st, s.size) = out ++ [trim (s.extract st s.size)]) := fun a => close_more a
      clear TM hb3 hb2 hown2 HCN HCM
      generalize trim (s.extract st s.size) = t at *
      by_cases hz : out.length = 0 ∧ t.size = 0
      · have z1 : ((out.length : Int) == 0) = true := by rw [hz.1]; rfl
        have z2 : t.toList.isEmpty = true := isEmpty_of hz.2
        have HF : Hid (fieldsV s = []) := HS2.out.trans (HC1.out hz.1 hz.2)
        clear hz HC1 HC2 hown3
        go_wp2
        try rw [Exit.noGoto_ret]
        go_ret
        exact ⟨_, rfl, by rw [HF.out]; exact World.ownsRow_nil _ _ _ _, b3⟩
      · have HF : Hid (fieldsV s = out ++ [t]) := HS2.out.trans (HC2.out hz)
        clear HC1 HC2
        have HW : Hid (∀ k, (Value.slice sa out.length sc).ownBlock = some k → w.heap.size + 1 ≤ k) := fun k e => (hown3.lt _ e).1
        by_cases hz1 : out.length = 0
        · have z1 : ((out.length : Int) == 0) = true := by rw [hz1]; rfl
          have z2 : t.toList.isEmpty = false := isEmpty_not (fun h => hz ⟨hz1, h⟩)
          clear hz hz1
          go_wp2_with (at_builtin; refine wpList_append_own _ rfl _ _ 34 rfl (w.heap.size + 1) 9 i0 (.string ByteArray.empty) 1 16 Tryd.underlying34 hi hz0 hy1 hz2 rfl (by decide) _ _ _ rfl (hown3.alloc _) ⟨w2.heap.size, 0, none⟩ 1 1 [.string t] rfl rfl (cell_one_new _ _ _) (by simp [Value.oneCell']) (by unfold maxLen; omega) (by omega) (by simp; omega) ?_)
          intro v' w3 hown4 hgrow _
          have R1 := (b3.alloc hs3 (.cells #[.string t] 9)).grown hgrow (by simp; omega) (fun k e => by have := HW.out k e; omega)
          clear hgrow hown3
          go_wp2
          try rw [Exit.noGoto_ret]
          go_ret
          exact ⟨_, rfl, by rw [HF.out, List.length_append, List.map_append]; exact hown4, R1⟩
        · have z1 : ((out.length : Int) == 0) = false := by rw [beq_eq_false_iff_ne]; omega
          clear hz
          go_wp2_with (at_builtin; refine wpList_append_own _ rfl _ _ 34 rfl (w.heap.size + 1) 9 i0 (.string ByteArray.empty) 1 16 Tryd.underlying34 hi hz0 hy1 hz2 rfl (by decide) _ _ _ rfl (hown3.alloc _) ⟨w2.heap.size, 0, none⟩ 1 1 [.string t] rfl rfl (cell_one_new _ _ _) (by simp [Value.oneCell']) (by unfold maxLen; omega) (by omega) (by simp; omega) ?_)
          intro v' w3 hown4 hgrow _
          have R1 := (b3.alloc hs3 (.cells #[.string t] 9)).grown hgrow (by simp; omega) (fun k e => by have := HW.out k e; omega)
          clear hgrow hown3
          go_wp2
          try rw [Exit.noGoto_ret]
          go_ret
          exact ⟨_, rfl, by rw [HF.out, List.length_append, List.map_append]; exact hown4, R1⟩
end Go.Proofs.YtnpnmhjhohhnjaaDoor.lin
