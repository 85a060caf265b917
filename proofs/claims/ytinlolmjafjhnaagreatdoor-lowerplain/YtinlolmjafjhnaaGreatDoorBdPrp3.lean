/- Texts that the proof leans on, one behind the other. -/
import Derived.Test.YtinlolmjafjhnaaGreatDoorBdPrp2
import Derived.Test.YtinlolmjafjhnaaGreatDoorBdNam1
import Derived.Test.YtinlolmjafjhnaaGreatDoorBdTri1

section
/- props.foldingsOf. -/
set_option linter.unusedVariables false
set_option linter.unusedSimpArgs false
namespace Go.Proofs.YtinlolmjafjhnaaGreatDoor.prp
open Go.RowKit Go.Maps lin
open Go.Proofs.YtinlolmjafjhnaaGreatDoor.nam (beqT2 beqF2)

theorem LMap.isMap {w : World} {b n : Nat} {g : Int → Option (List Int)} (h : LMap w b n g) : ∃ es cl, w.heap[b]? = some (.map es cl) := by
 obtain ⟨f, ⟨D, ⟨es, cl, hb, _⟩, _⟩, _⟩ := h
 exact ⟨es, cl, hb⟩
theorem pts_small (s : ByteArray) (h : s.size ≤ 100) : (pts (wordsB s)).length ≤ 101 := by
 have h1 := pts_len (wordsB s)
 have h2 := wds_len s.data.toList []
 rw [size_list] at h2
 unfold wordsB at *
 rw [List.length_map] at h1
 omega

set_option maxHeartbeats 2000000 in
set_option maxRecDepth 1000000 in
theorem foldings_any (v : Value) (l : List RL) (st : List UInt8) (w : World) (E : Env w) (h : View w v (l.map recOf)) (h0 : 0 < l.length) (hn : l.length ≤ 1000) (hf : ∀ x ∈ l, fitB x = true) (hq : ∀ x ∈ l, ∀ y ∈ cp x 1, 0 ≤ y ∧ y ≤ 1114111) :
  Calls Tryz.prog 39 #[v, .string (BA st)] w fun e w' => ∃ b, e = .returned (.map (some b)) ∧ LMap w' b 2000000 (lastG (foldVal st) l) ∧ Below w.heap.size w w' := by
 obtain ⟨rb, ro, rc, rfl, hrec⟩ := view_recs h h0
 have HREC : Hid (∀ (i : Nat) (r : RL), l[i]? = some r → ∃ g o2 c2, RecM w rb (ro + i * 3) r g o2 c2) := hrec
 have HE : Hid (Env w) := E
 have HFT : Hid (∀ (i : Nat) (r : RL), l[i]? = some r → fitB r = true) := fun i r hi => hf r (List.mem_of_getElem? hi)
 have HNX : Hid (∀ (i : Nat) (r : RL), l[i]? = some r → l.take (i + 1) = l.take i ++ [r]) := fun i r hi => by rw [List.take_add_one, hi]; rfl
 have HQ : Hid (∀ (i : Nat) (r : RL), l[i]? = some r → ∀ y ∈ cp r 1, 0 ≤ y ∧ y ≤ 1114111) := fun i r hi => hq r (List.mem_of_getElem? hi)
 clear h hrec hf hq E
 have hmm := @run_makeMap Tryz.prog
 go_enter Tryz.func39, Tryz.ntmps39
 go_wp2
 clear hmm
 go_loopw [13] (fun i wr => ∃ k : Nat, k ≤ l.length ∧ i = .int .i64 k ∧ Hid (LMap wr w.heap.size (1001 * k) (lastG (foldVal st) (l.take k))) ∧ Below w.heap.size w wr) (fun i _ => l.length - (RowKit.intOf i).toNat)
 case atStart => exact ⟨0, Nat.zero_le _, rfl, LMap.made w, (Below.refl _ w).alloc (Nat.le_refl _) _⟩
 case round =>
  obtain ⟨k, hk, rfl, HL, hbel⟩ := hrel
  by_cases hlt : k < l.length
  ·have hlt' : (k : Int) < (l.length : Int) := by omega
   obtain ⟨x, hx⟩ : ∃ x, l[k]? = some x := ⟨_, List.getElem?_eq_getElem hlt⟩
   obtain ⟨fg, fo, fc, hrm0⟩ := HREC.out k x hx
   have hrm := hrm0.below hbel
   obtain ⟨f1, f2, f3, f4, f5, f6⟩ := fit_spec (HFT.out k x hx)
   obtain ⟨f, hfx⟩ : ∃ f, x.2.2[0]? = some f := ⟨_, List.getElem?_eq_getElem (by omega)⟩
   have hf0 : x.2.2.getD 0 [] = f := by rw [List.getD_eq_getElem?_getD, hfx]; rfl
   have HTK := HNX.out k x hx
   have HEND : Hid (lastG (foldVal st) (l.take (k + 1)) = fun r => (foldVal st x r).or (lastG (foldVal st) (l.take k) r)) := by rw [Hid, HTK, lastG_snoc]
   have q0 := hrm.lo
   have q1 := hrm.hi
   have q2 := hrm.fv
   have q3 := hrm.fs 0 f hfx
   rw [Nat.add_zero] at q3
   have hfgl : fg < wr.heap.size := World.block_lt_of_cell? wr ⟨fg, fo, none⟩ q3
   have hbs := hbel.size
   have f5' : (1 : Int) ≤ (x.2.2.length : Int) := by omega
   have f5'' : (0 : Int) < (x.2.2.length : Int) := by omega
   by_cases hsk : f = st ∧ 2 ≤ x.2.2.length
   ·obtain ⟨hst, h2⟩ := hsk
    have t1 := beqT2 hst
    obtain ⟨f', hfx'⟩ : ∃ f', x.2.2[1]? = some f' := ⟨_, List.getElem?_eq_getElem (by omega)⟩
    obtain ⟨f7, f8⟩ := f6 f' (List.mem_of_getElem? hfx')
    have hcp : cp x 1 = pts (wordsB (BA f')) := by unfold cp; rw [List.getD_eq_getElem?_getD, hfx']; rfl
    have HCQ : Hid (∀ y ∈ pts (wordsB (BA f')), 0 ≤ y ∧ y ≤ 1114111) := by rw [← hcp]; exact HQ.out k x hx
    have HPS := pts_small (BA f') f7
    have HVAL : Hid (∀ r, x.1 ≤ r → r ≤ x.2.1 → foldVal st x r = some ((pts (wordsB (BA f'))).map (· + (r - x.1)))) := fun r h1 h3 => by
     unfold foldVal inR
     rw [decide_eq_true h1, decide_eq_true h3, if_pos ⟨by rw [hf0]; exact hst, h2, rfl⟩, hcp]
    have HOUT : Hid (∀ r, ¬ (x.1 ≤ r ∧ r ≤ x.2.1) → foldVal st x r = none) := fun r h1 => by
     unfold foldVal inR
     rw [if_neg]
     simp only [Bool.and_eq_true, decide_eq_true_eq]
     exact fun h => h1 h.2.2
    have q4 := hrm.fs 1 f' hfx'
    have h2' : ¬ (x.2.2.length : Int) < 2 := by omega
    have h2'' : (1 : Int) < (x.2.2.length : Int) := by omega
    have HCO : Hid (∀ W, Env W → Calls Tryz.prog 59 #[.string (BA f')] W fun e w' => ∃ v, e = .returned v ∧ IOwn w' W.heap.size v (pts (wordsB (BA f'))) ∧ Below W.heap.size W w') := fun W EW => code_any (BA f') W EW (by omega) f8
    have HG0 : Hid (lastG (foldVal st) (l.take k) = fun r => if x.1 ≤ r ∧ r < x.1 then (foldVal st x r).or (lastG (foldVal st) (l.take k) r) else lastG (foldVal st) (l.take k) r) := by
     unfold Hid; funext r; rw [if_neg (by omega)]
    clear HTK hx hfx hfx' f6 f7 f8 hcp hrm hrm0 hst hf0
    generalize lastG (foldVal st) (l.take k) = G at *
    generalize hL3 : x.2.2.length = n3 at *
    generalize pts (wordsB (BA f')) = XS at *
    obtain ⟨lo, hi, fs⟩ := x
    simp only at *
    have CO := HCO.out (wr.alloc (.cells #[.int .i64 lo, .int .i64 hi, .slice (some ⟨fg, fo, none⟩) n3 fc] 98)) ((HE.out.below hbel).below ((Below.refl _ wr).alloc (Nat.le_refl _) _))
    go_wp2_with fail
    refine CO.mono ?_
    rintro e w2 ⟨cv, rfl, ho, hb2⟩
    clear CO
    have W1b := (Below.refl wr.heap.size wr).alloc (Nat.le_refl _) (.cells #[.int .i64 lo, .int .i64 hi, .slice (some ⟨fg, fo, none⟩) n3 fc] 98)
    have nb1 : (wr.alloc (.cells #[.int .i64 lo, .int .i64 hi, .slice (some ⟨fg, fo, none⟩) n3 fc] 98)).heap[wr.heap.size]? = some (.cells #[.int .i64 lo, .int .i64 hi, .slice (some ⟨fg, fo, none⟩) n3 fc] 98 (0, 0)) := World.alloc_heap_new _ _
    have hlw : w.heap.size < wr.heap.size := HL.out.lt
    have nb2 : w2.heap[wr.heap.size]? = some (.cells #[.int .i64 lo, .int .i64 hi, .slice (some ⟨fg, fo, none⟩) n3 fc] 98 (0, 0)) := (hb2.block _ (Array.getElem?_eq_some_iff.1 nb1).1).trans nb1
    have hlt1 : wr.heap.size < w2.heap.size := (Array.getElem?_eq_some_iff.1 nb2).1
    have L1 := (HL.out.below W1b).below hb2
    have bw2 := (hbel.trans (W1b.mono hbs)).trans (hb2.mono (hbel.trans (W1b.mono hbs)).size)
    have hw2s := bw2.size
    obtain ⟨va, vc, rfl⟩ := own_slice ho
    have HIV : Hid (IV w2 (.slice va XS.length vc) XS) := ho.iv
    have HCELL : Hid (∀ W, Turns (fun k => k = w.heap.size) w2 W → W.cell? ⟨wr.heap.size, 0, none⟩ = some (.int .i64 lo) ∧ W.cell? ⟨wr.heap.size, 1, none⟩ = some (.int .i64 hi) ∧ Below w.heap.size w W) := fun W t => by
     have h := (t.block _ hlt1 (by omega)).trans nb2
     exact ⟨cell_of_row W _ 0 _ _ _ h, cell_of_row W _ 1 _ _ _ h, bw2.trans (t.below hw2s (fun k d => by omega))⟩
    obtain ⟨y0, y1, _⟩ := HCELL.out w2 (Turns.refl _ _)
    clear W1b nb1 nb2 hb2 q0 q1 q2 q3 q4 HL hbel ho
    generalize wr.heap.size = RB at *
    rw [HG0.out] at L1
    have L2 : Hid (LMap w2 w.heap.size (1001 * k + (lo - lo).toNat) (fun r => if lo ≤ r ∧ r < lo then (foldVal st (lo, hi, fs) r).or (G r) else G r)) := by unfold Hid; rw [Int.sub_self]; exact L1
    clear L1 HG0
    go_wp2
    clear y0 y1
    go_loopw [9] (fun u wz => ∃ p : Int, lo ≤ p ∧ p ≤ hi + 1 ∧ u = .int .i64 p ∧ Hid (LMap wz w.heap.size (1001 * k + (p - lo).toNat) (fun r => if lo ≤ r ∧ r < p then (foldVal st (lo, hi, fs) r).or (G r) else G r)) ∧ Hid (Turns (fun k => k = w.heap.size) w2 wz) ∧ Hid (IV wz (.slice va XS.length vc) XS)) (fun u _ => (hi + 1 - RowKit.intOf u).toNat)
    case atStart => exact ⟨lo, by omega, by omega, rfl, L2, Turns.refl _ _, HIV⟩
    case round =>
     clear L2 HIV
     obtain ⟨p, hp1, hp2, rfl, HM, HT, HV⟩ := hrel
     obtain ⟨c0, c1, hbw⟩ := HCELL.out _ HT.out
     have hwz := hbw.size
     by_cases hpi : p ≤ hi
     ·have AL := along_any (.slice va XS.length vc) XS (p - lo) wr HV.out (by omega) ⟨by omega, by omega⟩ HCQ.out
      have hv := HVAL.out p hp1 hpi
      have hup := updL_in (foldVal st) G (lo, hi, fs) p (XS.map (· + (p - lo))) ⟨hp1, hpi⟩ hv
      simp only at hup
      have wp1 : IntKind.i64.wrap (p + 1) = p + 1 := by rw [IntKind.wrap_i64]; omega
      have wp2 : IntKind.i64.wrap (p - lo) = p - lo := by rw [IntKind.wrap_i64]; omega
      go_wp2_with fail
      refine AL.mono ?_
      rintro e w3 ⟨cv, rfl, ho, hb3⟩
      clear AL
      have ha := ho.iv
      obtain ⟨va', vc', rfl⟩ := own_slice ho
      obtain ⟨w4, hrun, hM4, hg4⟩ := (HM.out.below hb3).put (by unfold maxLen; omega) (x := p) ⟨by omega, by omega⟩ ha
      rw [hup] at hM4
      have t34 : Turns (fun k => k = w.heap.size) w3 w4 := .of_grown hg4 (fun k e => by cases e; rfl)
      have HM2 : Hid (LMap w4 w.heap.size (1001 * k + (p + 1 - lo).toNat) (fun r => if lo ≤ r ∧ r < p + 1 then (foldVal st (lo, hi, fs) r).or (G r) else G r)) := hM4.mono (by omega)
      have HT2 : Hid (Turns (fun k => k = w.heap.size) w2 w4) := (HT.out.trans (.of_below hb3)).trans t34
      have HV2 : Hid (IV w4 (.slice va XS.length vc) XS) := (HV.out.below hb3).turns t34 (fun k d => by subst d; exact (HM.out.below hb3).isMap)
      clear HM HT HV hM4 hg4 ho hb3 hup hv t34 ha
      generalize (XS.map (· + (p - lo))).length = nn at *
      go_wp2
      exact ⟨⟨p + 1, by omega, by omega, rfl, HM2, HT2, HV2⟩, by simp [RowKit.intOf]; omega⟩
     ·obtain rfl : p = hi + 1 := by omega
      have HM2 : Hid (LMap wr w.heap.size (1001 * (k + 1)) (lastG (foldVal st) (l.take (k + 1)))) := by
       rw [Hid, HEND.out]
       have e : (fun r => if lo ≤ r ∧ r < hi + 1 then (foldVal st (lo, hi, fs) r).or (G r) else G r) = fun r => (foldVal st (lo, hi, fs) r).or (G r) := by
        funext r
        by_cases h : lo ≤ r ∧ r < hi + 1
        ·rw [if_pos h]
        ·rw [if_neg h, HOUT.out r (fun h2 => h ⟨h2.1, by omega⟩)]; rfl
       rw [← e]
       exact HM.out.mono (by omega)
      clear HM HT HV
      go_wp2
      exact ⟨⟨k + 1, by omega, by go_num, HM2, hbw⟩, by simp [RowKit.intOf]; omega⟩
   ·have HM2 : Hid (∀ o, LMap (wr.alloc o) w.heap.size (1001 * (k + 1)) (lastG (foldVal st) (l.take (k + 1)))) := fun o => by
     rw [HEND.out]
     have e : (fun r => (foldVal st x r).or (lastG (foldVal st) (l.take k) r)) = lastG (foldVal st) (l.take k) := by
      funext r
      rw [show foldVal st x r = none from by unfold foldVal; rw [if_neg]; intro h; exact hsk ⟨by rw [← hf0]; exact h.1, h.2.1⟩]
      rfl
     rw [e]
     exact (HL.out.below ((Below.refl _ wr).alloc (Nat.le_refl _) o)).mono (by omega)
    clear HTK hx hfx f6 hrm hrm0 HL HEND hf0
    by_cases hst : f = st
    ·have t1 := beqT2 hst
     have h2' : (x.2.2.length : Int) < 2 := by have : ¬ 2 ≤ x.2.2.length := fun h => hsk ⟨hst, h⟩; omega
     generalize hL3 : x.2.2.length = n3 at *
     obtain ⟨lo, hi, fs⟩ := x
     simp only at *
     clear hst hsk
     go_wp2
     exact ⟨⟨k + 1, by omega, by go_num, HM2.out _, hbel.alloc hbs _⟩, by simp [RowKit.intOf]; omega⟩
    ·have t1 := beqF2 hst
     generalize hL3 : x.2.2.length = n3 at *
     obtain ⟨lo, hi, fs⟩ := x
     simp only at *
     clear hst hsk
     go_wp2
     exact ⟨⟨k + 1, by omega, by go_num, HM2.out _, hbel.alloc hbs _⟩, by simp [RowKit.intOf]; omega⟩
  ·have hge : ¬ (k : Int) < (l.length : Int) := by omega
   have HF : Hid (LMap wr w.heap.size 2000000 (lastG (foldVal st) l)) := by
    have h := HL.out
    rw [List.take_of_length_le (by omega)] at h
    exact h.mono (by omega)
   clear HL
   go_wp2
   go_ret
   exact ⟨_, rfl, HF.out, hbel⟩
end Go.Proofs.YtinlolmjafjhnaaGreatDoor.prp
end

section
/- Tables: values and their places, and what is said of a code point. -/
set_option linter.unusedVariables false
set_option linter.unusedSimpArgs false
set_option linter.unusedSectionVars false
namespace Go.Proofs.YtinlolmjafjhnaaGreatDoor.prp
open Go.Proofs.YtinlolmjafjhnaaGreatDoor.nam (upd)
open Go.Proofs.YtinlolmjafjhnaaGreatDoor.tri (E last use clip good)

section
variable {α : Type} [DecidableEq α]
abbrev RA (α : Type) := Int × Int × α
def tstep (acc : List α × List E) (x : RA α) : List α × List E :=
 if x.2.2 ∈ acc.1 then (acc.1, acc.2 ++ [(x.1, x.2.1, (acc.1.idxOf x.2.2 : Int))]) else (acc.1 ++ [x.2.2], acc.2 ++ [(x.1, x.2.1, (acc.1.length : Int))])
def tall (none : α) (l : List (RA α)) : List α × List E := l.foldl tstep ([none], [(0, 1114111, 0)])
def lastV (none : α) (l : List (RA α)) (r : Int) : α := l.foldl (fun a x => if x.1 ≤ r ∧ r ≤ x.2.1 then x.2.2 else a) none
theorem tall_snoc (none : α) (l : List (RA α)) (x : RA α) : tall none (l ++ [x]) = tstep (tall none l) x := by simp [tall]
theorem lastV_snoc (none : α) (l : List (RA α)) (x : RA α) (r : Int) : lastV none (l ++ [x]) r = if x.1 ≤ r ∧ r ≤ x.2.1 then x.2.2 else lastV none l r := by simp [lastV]

/-- Where a value stands, as the map says it. -/
def places (vals : List α) (v : α) : Option Value := if v ∈ vals then some (.int .i64 (vals.idxOf v : Int)) else none
/-- Where a value stands. -/
def idx (vals : List α) (v : α) : Int := (vals.idxOf v : Int)
theorem tstep_mem (acc : List α × List E) (x : RA α) (h : x.2.2 ∈ acc.1) : tstep acc x = (acc.1, acc.2 ++ [(x.1, x.2.1, idx acc.1 x.2.2)]) := by unfold tstep; rw [if_pos h]; rfl
theorem tstep_new (acc : List α × List E) (x : RA α) (h : x.2.2 ∉ acc.1) : tstep acc x = (acc.1 ++ [x.2.2], acc.2 ++ [(x.1, x.2.1, (acc.1.length : Int))]) := by unfold tstep; rw [if_neg h]
theorem places_mem (vals : List α) (v : α) (h : v ∈ vals) : places vals v = some (.int .i64 (idx vals v)) := by unfold places; rw [if_pos h]; rfl
theorem places_none (vals : List α) (v : α) (h : v ∉ vals) : places vals v = none := by unfold places; rw [if_neg h]
theorem places_new (vals : List α) (v : α) (h : v ∉ vals) : upd (places vals) v (.int .i64 (vals.length : Int)) = places (vals ++ [v]) := by
 funext y
 unfold upd places
 by_cases hy : y = v
 ·subst hy
  rw [if_pos rfl, if_pos (by simp), List.idxOf_append, if_neg h]
  simp
 ·rw [if_neg hy]
  by_cases hm : y ∈ vals
  ·rw [if_pos hm, if_pos (by simp [hm]), List.idxOf_append, if_pos hm]
  ·rw [if_neg hm, if_neg (by simp [hm, hy])]

structure TInv (none : α) (F : Int → α) (n : Nat) (acc : List α × List E) : Prop where
 head : acc.1[0]? = some none
 len : acc.1.length ≤ n
 ents : acc.2.length = n
 fit : ∀ e ∈ acc.2, 0 ≤ e.1 ∧ e.1 ≤ e.2.1 ∧ e.2.1 ≤ 1114111 ∧ 0 ≤ e.2.2 ∧ e.2.2 < acc.1.length
 tell : ∀ r, 0 ≤ r → r ≤ 1114111 → ∃ i : Nat, last acc.2 r = some (i : Int) ∧ acc.1[i]? = some (F r)
theorem last_one (e : E) (r : Int) : last [e] r = if e.1 ≤ r ∧ r ≤ e.2.1 then some e.2.2 else none := by
 simp [last]
theorem TInv.step {none : α} {F : Int → α} {n : Nat} {acc : List α × List E} (h : TInv none F n acc) (x : RA α) (hx : 0 ≤ x.1 ∧ x.1 ≤ x.2.1 ∧ x.2.1 ≤ 1114111) :
  TInv none (fun r => if x.1 ≤ r ∧ r ≤ x.2.1 then x.2.2 else F r) (n + 1) (tstep acc x) := by
 unfold tstep
 by_cases hm : x.2.2 ∈ acc.1
 ·rw [if_pos hm]
  have hi := List.idxOf_lt_length_of_mem hm
  refine ⟨h.head, Nat.le_succ_of_le h.len, by simp [h.ents], fun e he => ?_, fun r h0 h1 => ?_⟩
  ·rcases List.mem_append.1 he with he | he
   ·exact h.fit e he
   ·rw [List.mem_singleton.1 he]
    exact ⟨hx.1, hx.2.1, hx.2.2, by simp, by simp; exact hi⟩
  ·simp only
   rw [tri.last_append, last_one]
   simp only
   by_cases hr : x.1 ≤ r ∧ r ≤ x.2.1
   ·rw [if_pos hr, if_pos hr]
    exact ⟨_, rfl, by rw [List.getElem?_eq_getElem hi, List.getElem_idxOf]⟩
   ·rw [if_neg hr, if_neg hr]
    exact h.tell r h0 h1
 ·rw [if_neg hm]
  refine ⟨?_, by simp; exact h.len, by simp [h.ents], fun e he => ?_, fun r h0 h1 => ?_⟩
  ·have : 0 < acc.1.length := (List.getElem?_eq_some_iff.1 h.head).1
   simp only
   rw [List.getElem?_append_left this]
   exact h.head
  ·simp only [List.length_append, List.length_singleton]
   rcases List.mem_append.1 he with he | he
   ·have := h.fit e he
    exact ⟨this.1, this.2.1, this.2.2.1, this.2.2.2.1, by omega⟩
   ·rw [List.mem_singleton.1 he]
    exact ⟨hx.1, hx.2.1, hx.2.2, by simp, by simp; omega⟩
  ·simp only
   rw [tri.last_append, last_one]
   simp only
   by_cases hr : x.1 ≤ r ∧ r ≤ x.2.1
   ·rw [if_pos hr, if_pos hr]
    exact ⟨_, rfl, by rw [List.getElem?_append_right (Nat.le_refl _), Nat.sub_self]; rfl⟩
   ·rw [if_neg hr, if_neg hr]
    obtain ⟨i, h2, h3⟩ := h.tell r h0 h1
    exact ⟨i, h2, by rw [List.getElem?_append_left (List.getElem?_eq_some_iff.1 h3).1]; exact h3⟩
theorem tall_none (none : α) : TInv none (lastV none []) 1 (tall none []) := by
 refine ⟨rfl, Nat.le_refl _, rfl, fun e he => ?_, fun r h0 h1 => ⟨0, ?_, rfl⟩⟩
 ·rw [List.mem_singleton.1 he]; exact ⟨by decide, by decide, by decide, by decide, Int.zero_lt_one⟩
 ·show last [(0, 1114111, 0)] r = _
  rw [last_one, if_pos ⟨h0, h1⟩]; rfl
theorem tall_take (none : α) (l : List (RA α)) (hl : ∀ x ∈ l, 0 ≤ x.1 ∧ x.1 ≤ x.2.1 ∧ x.2.1 ≤ 1114111) : ∀ k, k ≤ l.length → TInv none (lastV none (l.take k)) (k + 1) (tall none (l.take k)) := by
 intro k
 induction k with
 | zero => intro _; rw [List.take_zero]; exact tall_none none
 | succ k ih =>
  intro hk
  have h1 : l.take (k + 1) = l.take k ++ [l[k]] := by rw [List.take_add_one, List.getElem?_eq_getElem (by omega)]; rfl
  have := (ih (by omega)).step l[k] (hl _ (List.getElem_mem _))
  rw [h1, tall_snoc]
  have e : (fun r => if (l[k]).1 ≤ r ∧ r ≤ (l[k]).2.1 then (l[k]).2.2 else lastV none (l.take k) r) = lastV none (l.take k ++ [l[k]]) := by funext r; rw [lastV_snoc]
  rw [e] at this
  exact this
theorem tall_inv (none : α) (l : List (RA α)) (hl : ∀ x ∈ l, 0 ≤ x.1 ∧ x.1 ≤ x.2.1 ∧ x.2.1 ≤ 1114111) : TInv none (lastV none l) (l.length + 1) (tall none l) := by
 have := tall_take none l hl l.length (Nat.le_refl _)
 rwa [List.take_length] at this
/-- Entries that all play a part. -/
theorem use_same (n : Nat) (l : List E) (h : ∀ e ∈ l, 0 ≤ e.1 ∧ e.1 ≤ e.2.1 ∧ e.2.1 ≤ 1114111 ∧ 0 ≤ e.2.2 ∧ e.2.2 < n) : use (n : Int) l = l := by
 unfold use
 have h1 : l.map clip = l := by
  conv => rhs; rw [← List.map_id l]
  refine List.map_congr_left fun e he => ?_
  obtain ⟨a, b, c, _, _⟩ := h e he
  unfold clip
  show (max e.1 0, min e.2.1 1114111, e.2.2) = e
  rw [Int.max_eq_left a, Int.min_eq_left c]
 rw [h1, List.filter_eq_self]
 intro e he
 obtain ⟨a, b, c, d, f⟩ := h e he
 unfold good
 simp [b, d, f]
end
end Go.Proofs.YtinlolmjafjhnaaGreatDoor.prp
end
