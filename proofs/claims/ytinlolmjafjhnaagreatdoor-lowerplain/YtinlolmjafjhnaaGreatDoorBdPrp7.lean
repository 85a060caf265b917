/- Texts that the proof leans on, one behind the other. -/
import Derived.Test.YtinlolmjafjhnaaGreatDoorBdPrp6
import Derived.Test.YtinlolmjafjhnaaGreatDoorBdNam1
import Derived.Deep.AppendLies
import Derived.Test.YtinlolmjafjhnaaGreatDoorBdPrp2
import Derived.ProofKit
import Derived.OpenShut
import Derived.Deep.DeepHandedRow
import Derived.ChangeMaps5
import Derived.Deep.Strs
import Derived.Test.YtinlolmjafjhnaaGreatDoorBdRng1
import Derived.Test.YtinlolmjafjhnaaGreatDoorBdPrp3
import Derived.Test.YtinlolmjafjhnaaGreatDoorBdTri5
import Derived.Test.YtinlolmjafjhnaaGreatDoorBdRng5
import Derived.Laws.AppendOwnNone
import Derived.Test.YtinlolmjafjhnaaGreatDoorBdNam3

section
/- The document's tables in memory. -/
set_option linter.unusedVariables false
set_option linter.unusedSimpArgs false
namespace Go.Proofs.YtinlolmjafjhnaaGreatDoor.prp
open Go.RowKit Go.Maps lin

/-- v is a slice of lists of numbers, a row of its own from base on. -/
def LsAt (w : World) (base : Nat) (v : Value) (xss : List (List Int)) : Prop :=
 ∃ L : List (Value × List Int), L.map (·.2) = xss ∧ w.ownsRow base 37 1 v L.length (L.map (·.1)) ∧ ∀ q ∈ L, IOwn w base q.1 q.2
/-- A slice of lists of numbers, as it is read. -/
def LV (w : World) (v : Value) (xss : List (List Int)) : Prop := ∃ b c, v = .slice (some ⟨b, 0, none⟩) xss.length c ∧ ∀ (j : Nat) xs, xss[j]? = some xs → ∃ u, w.cell? ⟨b, j, none⟩ = some u ∧ IV w u xs
def RecTab (w : World) (t i : Nat) (l : List RL) : Prop := ∃ v, w.cell? ⟨t, i, none⟩ = some v ∧ View w v (l.map recOf)
def LstTab (w : World) (t i : Nat) (xss : List (List Int)) : Prop := ∃ v, w.cell? ⟨t, i, none⟩ = some v ∧ LV w v xss
def decR : List (List Int) := decL.map (fun x => rcp x 0)
def folR : List (List Int) := folL.map (fun x => rcp x 1)
/-- In block t lie the document's tables. -/
structure RTabs (w : World) (t : Nat) : Prop where
 cat : RecTab w t 0 catL
 com : RecTab w t 1 comL
 clu : RecTab w t 2 cluL
 wor : RecTab w t 3 worL
 scr : RecTab w t 4 scrL
 dec : RecTab w t 5 decL
 fol : RecTab w t 6 folL
 par : LstTab w t 7 decR
 fds : LstTab w t 8 folR
theorem dec_ok : 0 < decL.length ∧ decL.length ≤ 1000 ∧ ∀ x ∈ decL, 0 < x.2.2.length ∧ (x.2.2.getD 0 []).length ≤ 1000 := by decide +kernel
end Go.Proofs.YtinlolmjafjhnaaGreatDoor.prp
end

section
/- A round of the document's Load: a list of numbers more. -/
set_option linter.unusedVariables false
set_option linter.unusedSimpArgs false
namespace Go.Proofs.YtinlolmjafjhnaaGreatDoor.prp
open Go.RowKit Go.Maps lin

end Go.Proofs.YtinlolmjafjhnaaGreatDoor.prp
end

section
/- rubricatorref06.Load: the document's tables in memory. -/
set_option linter.unusedVariables false
set_option linter.unusedSimpArgs false
namespace Go.Proofs.YtinlolmjafjhnaaGreatDoor.prp
open Go.RowKit Go.Maps lin

end Go.Proofs.YtinlolmjafjhnaaGreatDoor.prp
end

section
/- The document's Parts and Fold. -/
set_option linter.unusedVariables false
set_option linter.unusedSimpArgs false
namespace Go.Proofs.YtinlolmjafjhnaaGreatDoor.prp
open Go.RowKit Go.Maps lin

end Go.Proofs.YtinlolmjafjhnaaGreatDoor.prp
end

section
/- How a slice of numbers that came in as an argument reads. -/
set_option linter.unusedVariables false
set_option linter.unusedSimpArgs false
namespace Go.Proofs.YtinlolmjafjhnaaGreatDoor.prp
open Go.ChangeShapes Go.WideShapes Go.ChangeAt Go.RowKit Go.Deep

/-- The argument v reads as the numbers l. -/
def ArgN (W : World) (v : Value) (l : List Int) : Prop := ∃ ao cap, v = .slice ao l.length cap ∧ (l.length = 0 ∨ ∃ b o, ao = some ⟨b, o, none⟩ ∧ ∀ (i : Nat) (r : Int), l[i]? = some r → W.cell? ⟨b, o + i, none⟩ = some (.int .i64 r)) ∧ (∀ r ∈ l, okI r) ∧ l.length ≤ 9223372036854775807
end Go.Proofs.YtinlolmjafjhnaaGreatDoor.prp
end

section
/- Sets of what is said: how many ranges they have. -/
set_option linter.unusedVariables false
set_option linter.unusedSimpArgs false
set_option linter.unusedSectionVars false
namespace Go.Proofs.YtinlolmjafjhnaaGreatDoor.prp
open Go.Proofs.YtinlolmjafjhnaaGreatDoor.rng (R has IsSet code CanF inP)

theorem len_le_of_sub : ∀ (l B : List Int), l.Nodup → (∀ x ∈ l, x ∈ B) → l.length ≤ B.length := by
 intro l
 induction l with
 | nil => intro B _ _; exact Nat.zero_le _
 | cons a t ih =>
  intro B hn hs
  have ha : a ∈ B := hs a (by simp)
  obtain ⟨hat, hn'⟩ := List.nodup_cons.1 hn
  have := ih (B.erase a) hn' (fun x hx => (List.mem_erase_of_ne (fun e => hat (by rw [← e]; exact hx))).2 (hs x (by simp [hx])))
  have h2 := List.length_erase_of_mem ha
  have h3 : 0 < B.length := List.length_pos_of_mem ha
  simp only [List.length_cons]
  omega
theorem can_lows : ∀ (r : List R) (m : Int), CanF m r → (∀ p ∈ r, m ≤ p.1) ∧ (r.map (·.1)).Nodup := by
 intro r
 induction r with
 | nil => intro m _; exact ⟨fun p hp => (by cases hp), List.nodup_nil⟩
 | cons q r ih =>
  intro m h
  obtain ⟨h1, h2, h3, h4⟩ := h
  obtain ⟨i1, i2⟩ := ih _ h4
  refine ⟨fun p hp => ?_, ?_⟩
  ·rcases List.mem_cons.1 hp with rfl | hp
   ·exact h1
   ·have := i1 p hp; omega
  ·rw [List.map_cons, List.nodup_cons]
   refine ⟨fun hm => ?_, i2⟩
   obtain ⟨p, hp, e⟩ := List.mem_map.1 hm
   have := i1 p hp
   omega
/-- The code point ahead of a range is in no range. -/
theorem can_ahead : ∀ (r : List R) (m : Int), 0 ≤ m → CanF m r → ∀ p ∈ r, has r p.1 = true ∧ has r (p.1 - 1) = false := by
 intro r
 induction r with
 | nil => intro m _ _ p hp; cases hp
 | cons q r ih =>
  intro m hm h p hp
  have hh := h
  obtain ⟨h1, h2, h3, h4⟩ := h
  have hlow : ∀ x, x < q.2 + 2 → has r x = false := fun x hx => by
   cases t : has r x
   ·rfl
   ·have := rng.can_lo h4 t; omega
  rw [rng.can_has hm hh, rng.can_has hm hh]
  rcases List.mem_cons.1 hp with rfl | hp
  ·refine ⟨by rw [(rng.inP_iff p p.1).2 ⟨Int.le_refl _, h2⟩]; rfl, ?_⟩
   rw [hlow _ (by omega), Bool.or_false]
   cases t : inP p (p.1 - 1)
   ·rfl
   ·have := (rng.inP_iff _ _).1 t; omega
  ·obtain ⟨i1, i2⟩ := ih _ (by omega) h4 p hp
   have hl := (can_lows r _ h4).1 p hp
   refine ⟨by rw [i1, Bool.or_true], ?_⟩
   rw [i2, Bool.or_false]
   cases t : inP q (p.1 - 1)
   ·rfl
   ·have := (rng.inP_iff _ _).1 t; omega
/-- A set that begins and ends at few places has few ranges. -/
theorem set_len {α : Type} [DecidableEq α] (F : Int → α) (c : α) (B : List Int) (r : List R) (hF : ∀ x, x ∉ B → F x = F (x - 1)) (h : IsSet r (fun x => decide (F x = c))) : r.length ≤ B.length + 1 := by
 have h1 := can_lows r 0 h.1
 have := len_le_of_sub (r.map (·.1)) (0 :: B) h1.2 (fun x hx => by
  obtain ⟨p, hp, rfl⟩ := List.mem_map.1 hx
  obtain ⟨h2, h3⟩ := can_ahead r 0 (Int.le_refl _) h.1 p hp
  by_cases hz : p.1 = 0
  ·rw [hz]; simp
  ·refine List.mem_cons_of_mem _ ?_
   by_cases hb : p.1 ∈ B
   ·exact hb
   ·exfalso
    have e := hF p.1 hb
    have c1 := rng.has_code h2
    have c2 : code (p.1 - 1) = true := by rw [rng.code_iff] at c1 ⊢; have := h1.1 p hp; omega
    have g2 := (h.2 _ c1).symm.trans h2
    have g3 := (h.2 _ c2).symm.trans h3
    simp only at g2 g3
    rw [← e, g2] at g3
    cases g3)
 simpa using this
section
variable {α : Type} [DecidableEq α]
def edgesOf (l : List (RA α)) : List Int := l.flatMap fun x => [x.1, x.2.1 + 1]
theorem lastV_edge (nn : α) (l : List (RA α)) (x : Int) (h : x ∉ edgesOf l) : lastV nn l x = lastV nn l (x - 1) := by
 unfold lastV
 induction l generalizing nn with
 | nil => rfl
 | cons a l ih =>
  unfold edgesOf at h
  rw [List.flatMap_cons, List.mem_append] at h
  have ha : x ≠ a.1 ∧ x ≠ a.2.1 + 1 := ⟨fun e => h (.inl (by simp [e])), fun e => h (.inl (by simp [e]))⟩
  rw [List.foldl_cons, List.foldl_cons]
  have e : (if a.1 ≤ x ∧ x ≤ a.2.1 then a.2.2 else nn) = (if a.1 ≤ x - 1 ∧ x - 1 ≤ a.2.1 then a.2.2 else nn) := by
   by_cases hh : a.1 ≤ x ∧ x ≤ a.2.1
   ·rw [if_pos hh, if_pos (by omega)]
   ·rw [if_neg hh, if_neg (by omega)]
  rw [e]
  exact ih _ (fun hm => h (.inr hm))
theorem edges_len (l : List (RA α)) : (edgesOf l).length = 2 * l.length := by
 induction l with
 | nil => rfl
 | cons a l ih => unfold edgesOf at *; rw [List.flatMap_cons, List.length_append, ih]; simp; omega
theorem lastV_set_len (nn c : α) (l : List (RA α)) (r : List R) (h : IsSet r (fun x => decide (lastV nn l x = c))) : r.length ≤ 2 * l.length + 1 := by
 have := set_len (lastV nn l) c (edgesOf l) r (fun x hx => lastV_edge nn l x hx) h
 rw [edges_len] at this
 exact this
end
end Go.Proofs.YtinlolmjafjhnaaGreatDoor.prp
end

section
/- The set of a category. -/
set_option linter.unusedVariables false
set_option linter.unusedSimpArgs false
namespace Go.Proofs.YtinlolmjafjhnaaGreatDoor.prp
open Go.RowKit Go.Maps lin
open Go.Proofs.YtinlolmjafjhnaaGreatDoor.rng (R has IsSet Sl code)

theorem ranges_tab (tb vb : Nat) (vals : List (List UInt8)) (s : List tri.E) (F : Int → List UInt8) (v : List UInt8) (w : World) (h : str.TabIs w tb vb vals s F) :
  Calls Tryz.prog 146 #[.pointer (some ⟨tb, 0, none⟩), .string (BA v)] w fun e w' => ∃ v' r, e = .returned v' ∧ rng.Own w' w.heap.size v' r ∧ IsSet r (fun x => decide (F x = v)) ∧ Below w.heap.size w w' := by
 refine (tri.str.ranges_any _ _ tb s (BA v) w h.tr h.ris).mono ?_
 rintro e w' ⟨v', r, rfl, ho, hs, hb⟩
 refine ⟨v', r, rfl, ho, hs.congr (fun x hx => ?_), hb⟩
 have hc := (rng.code_iff x).1 hx
 obtain ⟨i, h1, h2⟩ := h.tell x hc.1 hc.2
 simp only [h1, Int.toNat_natCast]
 rw [List.getD_eq_getElem?_getD, h2, Option.getD_some]
 have hd : (BA (F x) == BA v) = ((BA (F x)).data == (BA v).data) := rfl
 rw [hd]
 by_cases e : F x = v
 ·rw [decide_eq_true e, e, beq_self_eq_true]
 ·rw [decide_eq_false e, beq_eq_false_iff_ne]
  intro e2
  have := congrArg Array.toList e2
  rw [BA_data, BA_data] at this
  exact e this

def catF : Int → List UInt8 := sF [67, 110] catL
/-- The code points of a category, or of all that begin so. -/
def catP (v : List UInt8) (x : Int) : Bool := if 1 < v.length then decide (catF x = v) else Lib.hasPrefix (catF x) v
theorem cat_few : catL.length ≤ 200 := by decide +kernel
theorem cat_vals : (sV [67, 110] catL).length ≤ 201 := by
 have := (tall_inv [67, 110] (catL.map str.trip) (fun x hx => by
  obtain ⟨y, hy, rfl⟩ := List.mem_map.1 hx
  have := str.tfit_spec (cat_tfit y hy)
  exact ⟨this.1, this.2.1, this.2.2.1⟩)).len
 rw [List.length_map] at this
 have := cat_few
 unfold sV
 omega
theorem cat_rlen (c : List UInt8) (r : List R) (h : IsSet r (fun x => decide (catF x = c))) : r.length ≤ 401 := by
 have := lastV_set_len [67, 110] c (catL.map str.trip) r h
 rw [List.length_map] at this
 have := cat_few
 omega

set_option maxHeartbeats 4000000 in
set_option maxRecDepth 1000000 in
theorem categories_t (t : Nat) (v : List UInt8) (w : World) (h : Tabs w t) : Calls Tryz.prog 145 #[.pointer (some ⟨t, 0, none⟩), .string (BA v)] w fun e w' => ∃ v' r, e = .returned v' ∧ rng.Own w' w.heap.size v' r ∧ IsSet r (catP v) ∧ Below w.heap.size w w' := by
 obtain ⟨tb, vb, vc, s, c0, c1, ht⟩ := h.cat
 have hbs : (BA v).size = v.length := BA_size v
 by_cases h1 : 1 < v.length
 ·have D := ranges_tab tb vb _ s _ v w ht
  have HP : Hid (∀ r, IsSet r (fun x => decide (sF [67, 110] catL x = v)) → IsSet r (catP v)) := fun r hr => hr.congr (fun x _ => by unfold catP; rw [if_pos h1]; rfl)
  have h1' : (1 : Int) < ((BA v).size : Int) := by omega
  clear h ht c1 hbs h1
  generalize BA v = B at *
  go_enter Tryz.func145, Tryz.ntmps145
  go_wp2_with fail
  refine D.mono ?_
  rintro e w1 ⟨v', r, rfl, ho, hs, hb⟩
  clear D
  have hs2 := HP.out r hs
  clear hs
  go_wp2
  go_ret
  exact ⟨_, r, rfl, ho, hs2, hb⟩
 ·obtain ⟨i0, hi, hz0, hz1, hz2⟩ := rng.info_parts rng.infoRange
  have HT : Hid (str.TabIs w tb vb (sV [67, 110] catL) s (sF [67, 110] catL)) := ht
  have hvl := cat_vals
  have HGET : Hid (∀ (i : Nat) c, (sV [67, 110] catL)[i]? = some c → w.cell? ⟨vb, i, none⟩ = some (.string (BA c))) := ht.vs
  have HNX : Hid (∀ (i : Nat) c, (sV [67, 110] catL)[i]? = some c → (sV [67, 110] catL).take (i + 1) = (sV [67, 110] catL).take i ++ [c]) := fun i c hi => by rw [List.take_add_one, hi]; rfl
  have HLK : Hid (∀ i, i < (sV [67, 110] catL).length → ∃ c, (sV [67, 110] catL)[i]? = some c) := fun i hi => ⟨_, List.getElem?_eq_getElem hi⟩
  have HEND : Hid (∀ r, (∀ x, code x = true → has r x = (sV [67, 110] catL).any (fun c => Lib.hasPrefix c v && decide (catF x = c))) → ∀ r2, IsSet r2 (has r) → IsSet r2 (catP v)) := fun r hr r2 h2 => h2.congr (fun x hx => by
   rw [hr x hx]
   unfold catP
   rw [if_neg h1]
   have hc := (rng.code_iff x).1 hx
   obtain ⟨i, _, hm⟩ := ht.tell x hc.1 hc.2
   have hm' := List.mem_of_getElem? hm
   cases hp : Lib.hasPrefix (catF x) v with
   | true => rw [List.any_eq_true]; exact ⟨catF x, hm', by rw [hp, decide_eq_true rfl]; rfl⟩
   | false =>
    rw [List.any_eq_false]
    intro c _ hcc
    simp only [Bool.and_eq_true, decide_eq_true_eq] at hcc
    rw [hcc.2, hcc.1] at hp
    cases hp)
  have h1' : ¬ (1 : Int) < ((BA v).size : Int) := by omega
  have HPC : Hid (∀ c W, Calls Tryz.prog 185 #[.string (BA c), .string (BA v)] W fun e w' => e = .returned (.bool (Lib.hasPrefix c v)) ∧ w' = W) := fun c W => by
   have := Tryz.strings_HasPrefix (BA c) (BA v) W
   rw [BA_data, BA_data] at this
   exact this
  clear h ht hbs
  generalize sV [67, 110] catL = vals at *
  generalize hvn : vals.length = vn at *
  generalize hB : BA v = B at *
  clear hB
  go_enter Tryz.func145, Tryz.ntmps145
  go_wp2
  go_loopw [24, 5] (fun i u5 wr => ∃ (k : Nat) (out : List R), k ≤ vn ∧ i = .int .i64 k ∧ out.length ≤ 401 * k ∧ Hid (∀ x, code x = true → has out x = (vals.take k).any (fun c => Lib.hasPrefix c v && decide (catF x = c))) ∧ Hid (rng.Own wr w.heap.size u5 out) ∧ Below w.heap.size w wr) (fun i _ _ => vn - (RowKit.intOf i).toNat)
  case atStart => exact ⟨0, [], Nat.zero_le _, rfl, Nat.zero_le _, fun x hx => by simp [rng.has], World.ownsRow_nil _ _ _ _, Below.refl _ _⟩
  case round =>
   obtain ⟨k, out, hk, rfl, hol, HO, hown, hbel⟩ := hrel
   have hbs := hbel.size
   by_cases hlt : k < vn
   ·have hlt' : (k : Int) < (vn : Int) := by omega
    obtain ⟨c, hc⟩ := HLK.out k (by omega)
    have q0 := cell_below hbel (HGET.out k c hc)
    have q1 := cell_below hbel c0
    have HTK := HNX.out k c hc
    have C := HPC.out c wr
    have HR := ranges_tab tb vb _ s _ c wr (HT.out.below hbel)
    have HHR : Hid (Calls Tryz.prog 146 #[.pointer (some ⟨tb, 0, none⟩), .string (BA c)] wr fun e w' => ∃ v' r, e = .returned v' ∧ rng.Own w' wr.heap.size v' r ∧ IsSet r (fun x => decide (catF x = c)) ∧ Below wr.heap.size wr w') := HR
    have HEX : Hid (∀ x, code x = true → (vals.take (k + 1)).any (fun c => Lib.hasPrefix c v && decide (catF x = c)) = (has out x || (Lib.hasPrefix c v && decide (catF x = c)))) := fun x hx => by rw [HTK, List.any_append, HO.out x hx]; simp
    clear HR HTK hc
    go_wp2_with fail
    refine C.mono ?_
    rintro e w1 ⟨rfl, hw⟩
    rw [hw]
    clear C hw
    cases hp : Lib.hasPrefix c v with
    | false =>
     have HN : Hid (∀ x, code x = true → has out x = (vals.take (k + 1)).any (fun c => Lib.hasPrefix c v && decide (catF x = c))) := fun x hx => by rw [HEX.out x hx, hp]; simp
     clear hp HEX HHR HO
     go_wp2
     go_roundw
     case rel => exact ⟨k + 1, out, by omega, by go_num, by omega, HN, hown, hbel⟩
     case measure => simp [RowKit.intOf]; omega
    | true =>
     have C := HHR.out
     have HN : Hid (∀ r, IsSet r (fun x => decide (catF x = c)) → ∀ x, code x = true → has (out ++ r) x = (vals.take (k + 1)).any (fun c => Lib.hasPrefix c v && decide (catF x = c))) := fun r hr x hx => by rw [HEX.out x hx, hp, rng.has_append, hr.2 x hx]; simp
     clear hp HEX HHR HO
     go_wp2_with fail
     refine C.mono ?_
     rintro e w2 ⟨v', r, rfl, ho, hs, hb⟩
     clear C
     have hrl := cat_rlen c r hs
     have HN2 := HN.out r hs
     have HN3 : Hid (∀ x, code x = true → has (out ++ r) x = (vals.take (k + 1)).any (fun c => Lib.hasPrefix c v && decide (catF x = c))) := HN2
     have hown2 : Hid (rng.Own w2 w.heap.size u5 out) := own_below hown.out hb
     have hb2 := hbel.trans (hb.mono hbs)
     have hb2s := hb2.size
     have hlen : (out ++ r).length ≤ 401 * (k + 1) := by rw [List.length_append]; omega
     have HW : Hid (∀ k, u5.ownBlock = some k → w.heap.size ≤ k) := fun k e => (hown2.out.lt k e).1
     clear HN HN2 hs hown
     rcases ho.2 with ⟨hnil, hr0⟩ | ⟨g, cap, cur, hsl, hg⟩
     ·subst hnil
      obtain rfl : r = [] := List.eq_nil_of_length_eq_zero hr0
      rw [List.append_nil] at HN3 hlen
      go_wp2_with (at_builtin; refine wpList_append_own_none rfl _ _ 22 rfl w.heap.size 66 i0 2 Tryz.underlying22 hi _ _ _ rfl hown2.out rfl ?_)
      go_wp2
      go_roundw
      case rel => exact ⟨k + 1, out, by omega, by go_num, hlen, HN3, hown2, hb2⟩
      case measure => simp [RowKit.intOf]; omega
     ·clear hg
      subst hsl
      have hnews : ∀ (j : Nat) u, (rng.flat r)[j]? = some u → w2.cell? ((⟨g, 0, none⟩ : Addr).add j) = some u := fun j u hj => by
       rw [Addr.add_lit, Nat.zero_add, ho.cellAt j (by rw [← rng.flat_length]; exact (List.getElem?_eq_some_iff.1 hj).1)]
       exact hj
      have HNW : Hid (∀ (j : Nat) u, (rng.flat r)[j]? = some u → w2.cell? ((⟨g, 0, none⟩ : Addr).add j) = some u) := hnews
      have HFL : Hid ((rng.flat r).length = r.length * 2) := rng.flat_length r
      clear hnews ho
      generalize hrn : r.length = rn at *
      go_wp2_with (at_builtin; refine wpList_append_own _ rfl _ _ 22 rfl w.heap.size 66 i0 (.agg #[.int .i64 0, .int .i64 0]) 2 16 Tryz.underlying22 hi hz0 hz1 hz2 rfl (by decide) _ _ _ rfl hown2.out ⟨g, 0, none⟩ rn cap (rng.flat r) rfl HFL.out HNW.out (rng.flat_one r) ?c3 ?c4 ?c5 ?_)
      case c3 => unfold maxLen; omega
      case c4 => omega
      case c5 => omega
      ·intro v4 w4 hown4 hgrow _
       have R2 := Below.grown hb2 hgrow hb2s HW.out
       have R1 : Hid (rng.Own w4 w.heap.size v4 (out ++ r)) := by
        unfold Hid rng.Own; rw [rng.flat_append, List.length_append, hrn]; exact hown4
       clear hown4 hgrow
       go_wp2
       go_roundw
       case rel => exact ⟨k + 1, out ++ r, by omega, by go_num, hlen, HN3, R1, R2⟩
       case measure => simp [RowKit.intOf]; omega
   ·have hge : ¬ (k : Int) < (vn : Int) := by omega
    have HO2 : Hid (∀ x, code x = true → has out x = vals.any (fun c => Lib.hasPrefix c v && decide (catF x = c))) := fun x hx => by
     have := HO.out x hx
     rw [List.take_of_length_le (by omega)] at this
     exact this
    obtain ⟨ao, cap, rfl, hrv, _, _⟩ := rng.Own.view hown.out
    have C := rng.make_any ao cap out wr (by omega) hrv
    have HB : Hid (Below w.heap.size w wr) := hbel
    clear HO hown hrv
    generalize out.length = ol at *
    go_wp2_with fail
    refine C.mono ?_
    rintro e w2 ⟨v2, r2, rfl, o2, i2, b2⟩
    clear C
    have hfin := HEND.out out HO2.out r2 i2
    have O2 : Hid (rng.Own w2 wr.heap.size v2 r2) := o2
    clear i2 o2
    go_wp2
    go_ret
    exact ⟨_, r2, rfl, rng.own_mono O2.out hbs, hfin, HB.out.trans (b2.mono hbs)⟩
end Go.Proofs.YtinlolmjafjhnaaGreatDoor.prp
end

section
/- The set of a property that is so or not; the set of an expression. -/
set_option linter.unusedVariables false
set_option linter.unusedSimpArgs false
namespace Go.Proofs.YtinlolmjafjhnaaGreatDoor.prp
open Go.RowKit Go.Maps lin
open Go.Proofs.YtinlolmjafjhnaaGreatDoor.rng (R IsSet Sl code)

theorem beqT (c : List UInt8) : ((BA c).toList == c) = true := by rw [Lib.toList_data, BA_data]; exact beq_self_eq_true _
theorem beqF {v c : List UInt8} (h : v ≠ c) : ((BA v).toList == c) = false := by rw [Lib.toList_data, BA_data, beq_eq_false_iff_ne]; exact h
def spaceR : List R := [(9, 13), (32, 32), (133, 133), (160, 160), (8232, 8233)]
/-- The code points of a property that is so or not. -/
def binP (v : List UInt8) (x : Int) : Bool :=
 if v = [65, 110, 121] then true else if v = [65, 83, 67, 73, 73] then decide (x ≤ 127) else if v = [65, 108, 112, 104, 97] then catP [76] x || catP [78, 108] x
 else if v = [76, 111, 119, 101, 114] then catP [76, 108] x else if v = [85, 112, 112, 101, 114] then catP [76, 117] x else if v = [115, 112, 97, 99, 101] then rng.has spaceR x else false
theorem any_set : IsSet [((0 : Int), (1114111 : Int))] (fun _ => true) := ⟨by simp [rng.CanF], fun x hx => by rw [rng.has_iff]; have := (rng.code_iff x).1 hx; exact ⟨hx, _, List.mem_singleton.2 rfl, this⟩⟩
theorem ascii_set : IsSet [((0 : Int), (127 : Int))] (fun x => decide (x ≤ 127)) := ⟨by simp [rng.CanF], fun x hx => by
 have := (rng.code_iff x).1 hx
 rw [Bool.eq_iff_iff, rng.has_iff, decide_eq_true_eq]
 constructor
 ·rintro ⟨_, p, hp, h⟩; rw [List.mem_singleton.1 hp] at h; exact h.2
 ·intro h; exact ⟨hx, _, List.mem_singleton.2 rfl, this.1, h⟩⟩
theorem space_set : IsSet spaceR (rng.has spaceR) := IsSet.self ((rng.canB_iff 0 spaceR).1 (by decide))
theorem no_set : IsSet [] (fun _ => false) := ⟨trivial, fun x hx => rng.has_nil x⟩
theorem lit_own (w : World) (l : List R) (cs : Array Value) (h : cs.toList = rng.flat l) (hn : l.length ≤ 1000) : rng.Own (w.alloc (.cells cs 66)) w.heap.size (.slice (some ⟨w.heap.size, 0, none⟩) l.length l.length) l := by
 have := World.ownsRow_lit (base := w.heap.size) (e := 66) (size := 2) w cs l.length (Nat.le_refl _) (by unfold maxLen; omega) (by rw [← Array.length_toList, h, rng.flat_length])
 rw [h] at this
 exact this
theorem can_len : ∀ (r : List R) (m : Int), 0 ≤ m → rng.CanF m r → (r.length : Int) * 2 ≤ max 0 (1114113 - m) := by
 intro r
 induction r with
 | nil => intro m _ _; simp; omega
 | cons q r ih =>
  intro m hm h
  obtain ⟨h1, h2, h3, h4⟩ := h
  have := ih _ (by omega) h4
  simp only [List.length_cons]
  omega
theorem rlen {r : List R} {f : Int → Bool} (h : IsSet r f) : r.length ≤ 1000000 := by
 have := can_len r 0 (Int.le_refl _) h.1
 omega
set_option maxHeartbeats 2000000 in
set_option maxRecDepth 1000000 in
theorem binary_t (t : Nat) (v : List UInt8) (w : World) (h : Tabs w t) : Calls Tryz.prog 147 #[.pointer (some ⟨t, 0, none⟩), .string (BA v)] w fun e w' => ∃ v' r, e = .returned v' ∧ rng.Own w' w.heap.size v' r ∧ IsSet r (binP v) ∧ Below w.heap.size w w' := by
 by_cases h0 : v = [65, 110, 121]
 ·have hP : binP v = fun _ => true := by funext x; unfold binP; rw [if_pos h0]
  rw [hP]
  have g0 : ((BA v).toList == [65, 110, 121]) = true := by rw [h0]; exact beqT _
  clear hP h0
  generalize BA v = B at *
  clear h
  go_enter Tryz.func147, Tryz.ntmps147
  go_wp2
  try rw [Exit.noGoto_ret]
  go_ret
  exact ⟨_, [(0, 1114111)], rfl, lit_own w _ _ rfl (by decide), any_set, (Below.refl _ w).alloc (Nat.le_refl _) _⟩
 by_cases h1 : v = [65, 83, 67, 73, 73]
 ·have hP : binP v = fun x => decide (x ≤ 127) := by funext x; unfold binP; rw [if_neg h0, if_pos h1]
  rw [hP]
  have g0 := beqF h0
  have g1 : ((BA v).toList == [65, 83, 67, 73, 73]) = true := by rw [h1]; exact beqT _
  clear hP h0 h1
  generalize BA v = B at *
  clear h
  go_enter Tryz.func147, Tryz.ntmps147
  go_wp2
  try rw [Exit.noGoto_ret]
  go_ret
  exact ⟨_, [(0, 127)], rfl, lit_own w _ _ rfl (by decide), ascii_set, (Below.refl _ w).alloc (Nat.le_refl _) _⟩
 by_cases h2 : v = [65, 108, 112, 104, 97]
 ·have hP : binP v = fun x => catP [76] x || catP [78, 108] x := by funext x; unfold binP; rw [if_neg h0, if_neg h1, if_pos h2]
  rw [hP]
  have g0 := beqF h0
  have g1 := beqF h1
  have g2 : ((BA v).toList == [65, 108, 112, 104, 97]) = true := by rw [h2]; exact beqT _
  clear hP h0 h1 h2
  generalize BA v = B at *
  have C := categories_t t [76] w h
  have hc : BA [76] = ⟨#[76]⟩ := rfl
  rw [hc] at C
  clear hc
  have HT : Hid (Tabs w t) := h
  clear h
  go_enter Tryz.func147, Tryz.ntmps147
  go_wp2_with fail
  refine C.mono ?_
  rintro e w1 ⟨v1, r1, rfl, o1, s1, b1⟩
  clear C
  have C := categories_t t [78, 108] w1 (HT.out.below b1)
  have hc : BA [78, 108] = ⟨#[78, 108]⟩ := rfl
  rw [hc] at C
  clear hc
  have z1 := o1.sl
  have HS1 : Hid (IsSet r1 (catP [76])) := s1
  clear s1 o1
  go_wp2_with fail
  refine C.mono ?_
  rintro e w2 ⟨v2, r2, rfl, o2, s2, b2⟩
  clear C
  have z2 := o2.sl
  have z3 := z1.below b2
  have HS2 : Hid (IsSet r2 (catP [78, 108])) := s2
  obtain ⟨a1, c1, rfl, k1, _⟩ := z3
  obtain ⟨a2, c2, rfl, k2, _⟩ := z2
  have C := rng.union_any a1 a2 c1 c2 r1 r2 w2 (rlen HS1.out) (rlen HS2.out) k1 k2
  have HB : Hid (Below w.heap.size w w2) := b1.trans (b2.mono b1.size)
  clear z1 s2 o2 k1 k2 b1 b2
  generalize r1.length = n1 at *
  generalize r2.length = n2 at *
  go_wp2_with fail
  refine C.mono ?_
  rintro e w3 ⟨v3, r3, rfl, o3, s3, b3⟩
  clear C
  have hfin := s3.congr (g := fun x => catP [76] x || catP [78, 108] x) (fun x hx => by rw [HS1.out.2 x hx, HS2.out.2 x hx])
  clear s3
  go_wp2
  try rw [Exit.noGoto_ret]
  go_ret
  exact ⟨_, r3, rfl, rng.own_mono o3 HB.out.size, hfin, HB.out.trans (b3.mono HB.out.size)⟩
 by_cases h3 : v = [76, 111, 119, 101, 114]
 ·have hP : binP v = catP [76, 108] := by funext x; unfold binP; rw [if_neg h0, if_neg h1, if_neg h2, if_pos h3]
  rw [hP]
  have g0 := beqF h0
  have g1 := beqF h1
  have g2 := beqF h2
  have g3 : ((BA v).toList == [76, 111, 119, 101, 114]) = true := by rw [h3]; exact beqT _
  clear hP h0 h1 h2 h3
  generalize BA v = B at *
  have C := categories_t t [76, 108] w h
  have hc : BA [76, 108] = ⟨#[76, 108]⟩ := rfl
  rw [hc] at C
  clear h hc
  go_enter Tryz.func147, Tryz.ntmps147
  go_wp2_with fail
  refine C.mono ?_
  rintro e w1 ⟨v', r, rfl, ho, hs, hb⟩
  clear C
  go_wp2
  try rw [Exit.noGoto_ret]
  go_ret
  exact ⟨_, r, rfl, ho, hs, hb⟩
 by_cases h4 : v = [85, 112, 112, 101, 114]
 ·have hP : binP v = catP [76, 117] := by funext x; unfold binP; rw [if_neg h0, if_neg h1, if_neg h2, if_neg h3, if_pos h4]
  rw [hP]
  have g0 := beqF h0
  have g1 := beqF h1
  have g2 := beqF h2
  have g3 := beqF h3
  have g4 : ((BA v).toList == [85, 112, 112, 101, 114]) = true := by rw [h4]; exact beqT _
  clear hP h0 h1 h2 h3 h4
  generalize BA v = B at *
  have C := categories_t t [76, 117] w h
  have hc : BA [76, 117] = ⟨#[76, 117]⟩ := rfl
  rw [hc] at C
  clear h hc
  go_enter Tryz.func147, Tryz.ntmps147
  go_wp2_with fail
  refine C.mono ?_
  rintro e w1 ⟨v', r, rfl, ho, hs, hb⟩
  clear C
  go_wp2
  try rw [Exit.noGoto_ret]
  go_ret
  exact ⟨_, r, rfl, ho, hs, hb⟩
 by_cases h5 : v = [115, 112, 97, 99, 101]
 ·have hP : binP v = rng.has spaceR := by funext x; unfold binP; rw [if_neg h0, if_neg h1, if_neg h2, if_neg h3, if_neg h4, if_pos h5]
  rw [hP]
  have g0 := beqF h0
  have g1 := beqF h1
  have g2 := beqF h2
  have g3 := beqF h3
  have g4 := beqF h4
  have g5 : ((BA v).toList == [115, 112, 97, 99, 101]) = true := by rw [h5]; exact beqT _
  clear hP h0 h1 h2 h3 h4 h5
  generalize BA v = B at *
  clear h
  go_enter Tryz.func147, Tryz.ntmps147
  go_wp2
  try rw [Exit.noGoto_ret]
  go_ret
  exact ⟨_, spaceR, rfl, lit_own w _ _ rfl (by decide), space_set, (Below.refl _ w).alloc (Nat.le_refl _) _⟩
 have hP : binP v = fun _ => false := by funext x; unfold binP; rw [if_neg h0, if_neg h1, if_neg h2, if_neg h3, if_neg h4, if_neg h5]
 rw [hP]
 have g0 := beqF h0
 have g1 := beqF h1
 have g2 := beqF h2
 have g3 := beqF h3
 have g4 := beqF h4
 have g5 := beqF h5
 clear hP h h0 h1 h2 h3 h4 h5
 generalize BA v = B at *
 go_enter Tryz.func147, Tryz.ntmps147
 go_wp2
 go_ret
 exact ⟨_, [], rfl, World.ownsRow_nil _ _ _ _, no_set, Below.refl _ _⟩
def scrF : Int → List UInt8 := sF [90, 122, 122, 122] scrL
/-- The code points of what an expression names. -/
def setP (q : Int × List UInt8 × Int) (x : Int) : Bool := if q.2.2 ≠ 0 then false else if q.1 = 1 then catP q.2.1 x else if q.1 = 2 then decide (scrF x = q.2.1) else binP q.2.1 x
set_option maxHeartbeats 4000000 in
set_option maxRecDepth 1000000 in
theorem set_t (t : Nat) (s : ByteArray) (w : World) (h : Tabs w t) (hs : s.size ≤ 140737488355327) : Calls Tryz.prog 100 #[.pointer (some ⟨t, 0, none⟩), .string s] w fun e w' => ∃ v' r, e = .returned (.tuple #[v', .int .i64 (nam.resolveV s).2.2]) ∧ rng.Own w' w.heap.size v' r ∧ IsSet r (setP (nam.resolveV s)) ∧ Below w.heap.size w w' := by
 have C := made_t t w h
 have RE := nam.resolve_any s w hs
 have HT : Hid (Tabs w t) := h
 clear h
 generalize nam.resolveV s = q at *
 obtain ⟨K, V, ER⟩ := q
 simp only at *
 by_cases he : ER = 0
 ·subst he
  by_cases h1 : K = 1
  ·subst h1
   have hP : setP (1, V, 0) = catP V := by funext x; unfold setP; simp
   rw [hP]
   clear hP
   go_enter Tryz.func100, Tryz.ntmps100
   go_wp2_with fail
   refine C.mono ?_
   rintro e w1 ⟨rfl, hw⟩
   rw [hw]
   clear C hw w1
   go_wp2_with fail
   refine RE.mono ?_
   rintro e w1 ⟨rfl, b1⟩
   clear RE
   have D := categories_t t V w1 (HT.out.below b1)
   go_wp2_with fail
   refine D.mono ?_
   rintro e w2 ⟨v', r, rfl, ho, hs2, hb⟩
   clear D
   go_wp2
   try rw [Exit.noGoto_ret]
   go_ret2
   exact ⟨_, r, rfl, rng.own_mono ho b1.size, hs2, b1.trans (hb.mono b1.size)⟩
  ·have k1 : (K == 1) = false := beq_eq_false_iff_ne.2 h1
   by_cases h2 : K = 2
   ·subst h2
    have hP : setP (2, V, 0) = fun x => decide (scrF x = V) := by funext x; unfold setP; simp
    rw [hP]
    clear hP
    go_enter Tryz.func100, Tryz.ntmps100
    go_wp2_with fail
    refine C.mono ?_
    rintro e w1 ⟨rfl, hw⟩
    rw [hw]
    clear C hw w1
    go_wp2_with fail
    refine RE.mono ?_
    rintro e w1 ⟨rfl, b1⟩
    clear RE
    obtain ⟨tb, vb, vc, s2, c0, c1, ht⟩ := (HT.out.below b1).scr
    have D := ranges_tab tb vb _ s2 _ V w1 ht
    clear ht c1
    have HD : Hid (Calls Tryz.prog 146 #[.pointer (some ⟨tb, 0, none⟩), .string (BA V)] w1 fun e w' => ∃ v' r, e = .returned v' ∧ rng.Own w' w1.heap.size v' r ∧ IsSet r (fun x => decide (scrF x = V)) ∧ Below w1.heap.size w1 w') := D
    clear D
    go_wp2_with fail
    refine HD.out.mono ?_
    rintro e w2 ⟨v', r, rfl, ho, hs2, hb⟩
    clear HD
    go_wp2
    try rw [Exit.noGoto_ret]
    go_ret2
    exact ⟨_, r, rfl, rng.own_mono ho b1.size, hs2, b1.trans (hb.mono b1.size)⟩
   ·have k2 : (K == 2) = false := beq_eq_false_iff_ne.2 h2
    have hP : setP (K, V, 0) = binP V := by funext x; unfold setP; simp [h1, h2]
    rw [hP]
    clear hP
    go_enter Tryz.func100, Tryz.ntmps100
    go_wp2_with fail
    refine C.mono ?_
    rintro e w1 ⟨rfl, hw⟩
    rw [hw]
    clear C hw w1
    go_wp2_with fail
    refine RE.mono ?_
    rintro e w1 ⟨rfl, b1⟩
    clear RE
    have D := binary_t t V w1 (HT.out.below b1)
    go_wp2_with fail
    refine D.mono ?_
    rintro e w2 ⟨v', r, rfl, ho, hs2, hb⟩
    clear D
    go_wp2
    try rw [Exit.noGoto_ret]
    go_ret2
    exact ⟨_, r, rfl, rng.own_mono ho b1.size, hs2, b1.trans (hb.mono b1.size)⟩
 ·have k0 : (ER == 0) = false := beq_eq_false_iff_ne.2 he
  have hP : setP (K, V, ER) = fun _ => false := by funext x; unfold setP; simp [he]
  rw [hP]
  clear hP
  go_enter Tryz.func100, Tryz.ntmps100
  go_wp2_with fail
  refine C.mono ?_
  rintro e w1 ⟨rfl, hw⟩
  rw [hw]
  clear C hw w1
  go_wp2_with fail
  refine RE.mono ?_
  rintro e w1 ⟨rfl, b1⟩
  clear RE
  go_wp2
  go_ret2
  exact ⟨_, [], rfl, World.ownsRow_nil _ _ _ _, no_set, b1⟩
end Go.Proofs.YtinlolmjafjhnaaGreatDoor.prp
end

section
/- PropsNobody: tables that no call made tell nothing. -/
set_option linter.unusedVariables false
set_option linter.unusedSimpArgs false
namespace Go.Proofs.YtinlolmjafjhnaaGreatDoor.prp
open Go.RowKit Go.Maps lin

end Go.Proofs.YtinlolmjafjhnaaGreatDoor.prp
end
