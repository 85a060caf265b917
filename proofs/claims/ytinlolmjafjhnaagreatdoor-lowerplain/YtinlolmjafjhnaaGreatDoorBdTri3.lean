/- Texts that the proof leans on, one behind the other. -/
import Derived.Test.YtinlolmjafjhnaaGreatDoorBdTri2
import Derived.Deep.OwnRows

section
/- What trie.joined answers: a list that rises and tells the same values. -/
set_option linter.unusedVariables false
set_option linter.unusedSimpArgs false
namespace Go.Proofs.YtinlolmjafjhnaaGreatDoor.tri
open Go.RowKit
open Go.Proofs.YtinlolmjafjhnaaGreatDoor.rng (ret_int ret_bool below_drewN info_parts own_below')

theorem own_last {w : World} {B : Nat} {v : Value} {i : List E} {q : E} (h : w.ownsRow B 95 3 v (i ++ [q]).length (flat (i ++ [q]))) :
  ∃ g c, v = .slice (some ⟨g, 0, none⟩) (i.length + 1) c ∧ B ≤ g ∧ g < w.heap.size ∧ i.length + 1 ≤ c ∧ c ≤ maxLen ∧ w.cell? ⟨g, i.length * 3 + 1, none⟩ = some (.int .i64 q.2.1) ∧ w.cell? ⟨g, i.length * 3 + 2, none⟩ = some (.int .i64 q.2.2) ∧ w.frozen? ⟨g, i.length * 3 + 1, none⟩ = false := by
 have hl : (i ++ [q]).length = i.length + 1 := by simp
 rcases h.2 with ⟨_, h0⟩ | ⟨g, c, cur, rfl, hg, hgg, hc, hm, _⟩
 ·rw [hl] at h0; omega
 ·have hq : (i ++ [q])[i.length]? = some q := by simp
  obtain ⟨e1, e2, e3⟩ := flat_get _ _ _ hq
  exact ⟨g, c, by rw [hl], hg, (Array.getElem?_eq_some_iff.1 hgg).1, by omega, hm, (h.cellAt _ (by omega)).trans e2, (h.cellAt _ (by omega)).trans e3, h.frozenAt _⟩
theorem flat_setHi (i : List E) (a b c d : Int) : (flat (i ++ [(a, b, c)])).set (i.length * 3 + 1) (.int .i64 d) = flat (i ++ [(a, d, c)]) := by
 have hl := flat_length i
 rw [flat_append, flat_append, List.set_append, if_neg (by omega), hl, show i.length * 3 + 1 - i.length * 3 = 1 by omega]; rfl
theorem own_setHi {w : World} {B g c : Nat} {i : List E} {a b e d : Int} (h : w.ownsRow B 95 3 (.slice (some ⟨g, 0, none⟩) (i.length + 1) c) (i ++ [(a, b, e)]).length (flat (i ++ [(a, b, e)]))) :
  (w.setCell ⟨g, i.length * 3 + 1, none⟩ (.int .i64 d)).ownsRow B 95 3 (.slice (some ⟨g, 0, none⟩) (i.length + 1) c) (i ++ [(a, d, e)]).length (flat (i ++ [(a, d, e)])) := by
 have hl : (i ++ [(a, b, e)]).length = i.length + 1 := by simp
 have hl' : (i ++ [(a, d, e)]).length = i.length + 1 := by simp
 rw [hl] at h
 rw [hl']
 have := (h.stored (i.length * 3 + 1) (.int .i64 d)).1
 rwa [flat_setHi] at this
/-- What joined has made so far. -/
def JInv (nv : Int) (l : List E) (k : Nat) (out : List E) : Prop := Ris nv 0 (out ++ l.drop k) ∧ ∀ x, at_ (out ++ l.drop k) x = at_ l x
theorem JInv.new {nv : Int} {l out : List E} {k : Nat} {e : E} (h : JInv nv l k out) (he : l[k]? = some e) : JInv nv l (k + 1) (out ++ [e]) := by
 unfold JInv at *; rw [dropX he] at h; simpa using h
theorem JInv.join {nv : Int} {l i : List E} {k : Nat} {a b c x y : Int} (h : JInv nv l k (i ++ [(a, b, c)])) (he : l[k]? = some (x, y, c)) (hb : b + 1 = x) : JInv nv l (k + 1) (i ++ [(a, y, c)]) := by
 unfold JInv at *
 rw [dropX he] at h
 obtain ⟨h1, h2⟩ := h
 have h1' : Ris nv 0 (i ++ (a, b, c) :: (x, y, c) :: l.drop (k + 1)) := by simpa using h1
 obtain ⟨g1, g2⟩ := join_good i 0 (a, b, c) (x, y, c) (l.drop (k + 1)) h1' hb rfl
 refine ⟨by simpa using g1, fun x' => ?_⟩
 have := g2 x'
 have h2' := h2 x'
 simp only [List.append_assoc, List.cons_append, List.nil_append] at *
 rw [this, h2']
theorem JInv.last_in {nv : Int} {l i : List E} {k : Nat} {q : E} (h : JInv nv l k (i ++ [q])) : 0 ≤ q.2.1 ∧ q.2.1 ≤ 1114111 := by
 have := ris_mem h.1 q (by simp); omega

set_option maxRecDepth 10000 in
set_option maxHeartbeats 4000000 in
theorem joined_any (nv : Int) (ao : Option Addr) (cap : Nat) (l : List E) (w : World) (hn : l.length ≤ 2000000) (hv : EV w ao l) (hr : Ris nv 0 l) :
  Calls Tryz.prog 80 #[.slice ao l.length cap] w fun e w' => ∃ v s, e = .returned v ∧ Own w' w.heap.size v s ∧ Ris nv 0 s ∧ (∀ x, at_ s x = at_ l x) ∧ Below w.heap.size w w' := by
 obtain ⟨i0, hi, hz0, hz1, hz2⟩ := info_parts infoEntry
 have HV : Hid (EV w ao l) := hv
 have HI : Hid (JInv nv l 0 []) := ⟨hr, fun x => rfl⟩
 obtain ⟨n, hl⟩ : ∃ n, l.length = n := ⟨_, rfl⟩
 rw [hl] at hn ⊢
 have HL : Hid (l.length = n) := hl
 clear hv hl hr
 go_enter Tryz.func80, Tryz.ntmps80
 go_wp2
 go_loopw [3, 9] (fun v i wr => ∃ (k : Nat) (out : List E), k ≤ n ∧ i = .int .i64 k ∧ out.length ≤ k ∧ Hid (JInv nv l k out) ∧ wr.ownsRow w.heap.size 95 3 v out.length (flat out) ∧ Below w.heap.size w wr) (fun _ i _ => n - (intOf i).toNat)
 case atStart => exact ⟨0, [], Nat.zero_le _, rfl, Nat.le_refl _, HI, World.ownsRow_nil _ _ _ _, Below.refl _ _⟩
 case round =>
  obtain ⟨k, out, hk, rfl, hok, HK, hown, hbel⟩ := hrel
  clear HI
  have hs1 := hbel.size
  by_cases hlt : k < n
  ·obtain ⟨x, y, z, hp⟩ := get3 HL.out hlt
   obtain ⟨b, off, rfl, hc⟩ := (HV.out.below hbel).some (by have := HL.out; omega)
   obtain ⟨c1, c2, c3⟩ := hc k (x, y, z) hp
   simp only at c1 c2 c3
   have HP : Hid (l[k]? = some (x, y, z)) := hp
   clear hc hp
   have HW : Hid (∀ j, u3.ownBlock = some j → w.heap.size ≤ j) := fun j e => (hown.lt _ e).1
   have HE : Hid (JInv nv l (k + 1) (out ++ [(x, y, z)])) := HK.out.new HP.out
   rcases List.eq_nil_or_concat out with rfl | ⟨i, q, rfl⟩
   ·have hl0 : decide ((0 : Int) ≤ -1) = false := by decide
    obtain ⟨ua, uc, rfl⟩ : ∃ ua uc, u3 = .slice ua 0 uc := by
     rcases hown.2 with ⟨e, _⟩ | ⟨g, c, _, e, _⟩
     ·exact ⟨_, _, e⟩
     ·exact ⟨_, _, e⟩
    have hown' : wr.ownsRow w.heap.size 95 3 (.slice ua 0 uc) 0 [] := hown
    clear hown HK
    go_wp2
    go_quiet (fail)
    generalize hwq : (World.drewN _ _) = wq at *
    have O2 : wq.ownsRow w.heap.size 95 3 (.slice ua 0 uc) 0 [] := by rw [← hwq]; exact hown'.alloc _
    have B2 : Below w.heap.size w wq := by rw [← hwq]; exact below_drewN (hbel.alloc hs1 _) _
    have f0 : wq.cell? ⟨wr.heap.size, 0, none⟩ = some (.int .i64 x) := by rw [← hwq]; simp
    have f1 : wq.cell? ⟨wr.heap.size, 1, none⟩ = some (.int .i64 y) := by rw [← hwq]; simp
    have f2 : wq.cell? ⟨wr.heap.size, 2, none⟩ = some (.int .i64 z) := by rw [← hwq]; simp
    clear hwq hbel hown' c1 c2 c3
    have hs2 := B2.size
    go_wp2_with (at_builtin; refine wpList_append_own _ rfl _ _ 96 rfl w.heap.size 95 i0 (.agg #[.int .i64 0, .int .i64 0, .int .i64 0]) 3 24 Tryz.underlying96 hi hz0 hz1 hz2 rfl (by decide) _ _ _ rfl (O2.alloc _) ⟨wq.heap.size, 0, none⟩ 1 1 [.int .i64 x, .int .i64 y, .int .i64 z] rfl rfl ?c1 ?c2 ?c3 ?c4 ?c5 ?_)
    try (case c1 => exact one_new wq _ _ _ _)
    case c2 => first | (intro u hu; simp at hu; rcases hu with rfl | rfl | rfl <;> rfl) | (refine ⟨?_, ?_, ?_⟩ <;> rfl)
    case c3 => unfold maxLen; omega
    case c4 => omega
    case c5 => first | omega | (simp; omega)
    ·intro v' w2 hown2 hgrow _
     have R2 := Below.grown (B2.alloc hs2 (.cells #[.int .i64 x, .int .i64 y, .int .i64 z] 95)) hgrow (by simp; omega) HW.out
     have R1 : w2.ownsRow w.heap.size 95 3 v' ([] ++ [(x, y, z)]).length (flat ([] ++ [(x, y, z)])) := hown2
     clear hown2 hgrow
     go_wp2
     go_roundw
     case rel => exact ⟨k + 1, [] ++ [(x, y, z)], by omega, by go_num, by simp, HE, R1, R2⟩
     case measure => simp [intOf]; omega
   ·rw [List.concat_eq_append] at *
    obtain ⟨q1, q2, q3⟩ := q
    obtain ⟨g, c, rfl, hg1, hg2, hg3, hg4, k2, k3, k4⟩ := own_last hown
    simp only at k2 k3
    obtain ⟨hq0, hq1⟩ := HK.out.last_in
    simp only at hq0 hq1
    have k2' : ∀ o, (wr.alloc o).cell? ⟨g, i.length * 3 + 1, none⟩ = some (.int .i64 q2) := fun o => past1 k2 o
    have k3' : ∀ o, (wr.alloc o).cell? ⟨g, i.length * 3 + 2, none⟩ = some (.int .i64 q3) := fun o => past1 k3 o
    have HO : Hid (wr.ownsRow w.heap.size 95 3 (.slice (some ⟨g, 0, none⟩) (i.length + 1) c) (i ++ [(q1, q2, q3)]).length (flat (i ++ [(q1, q2, q3)]))) := hown
    have hiL : i.length + 1 ≤ k := by simpa using hok
    clear hown hok
    unfold maxLen at hg4
    obtain ⟨L, hL⟩ : ∃ L, i.length = L := ⟨_, rfl⟩
    have HLL : Hid (i.length = L) := hL
    rw [hL] at k2 k3 k2' k3' k4 hg3 hiL ⊢
    clear hL
    have hl0 : decide ((0 : Int) ≤ (L : Int)) = true := decide_eq_true (by omega)
    by_cases hzz : q3 = z
    ·by_cases hxx : q2 + 1 = x
     ·have HE2 : Hid (JInv nv l (k + 1) (i ++ [(q1, y, q3)])) := HK.out.join (by rw [hzz]; exact HP.out) hxx
      subst hzz
      have e2 : (q2 + 1 == x) = true := by simpa using hxx
      clear HE HK hxx
      go_wp2
      go_quiet (fail)
      generalize hwq : (World.drewN _ _) = wq at *
      have O2 : wq.ownsRow w.heap.size 95 3 (.slice (some ⟨g, 0, none⟩) (i.length + 1) c) (i ++ [(q1, q2, q3)]).length (flat (i ++ [(q1, q2, q3)])) := by rw [← hwq, HLL.out]; exact (HLL.out ▸ HO.out).alloc _
      have B2 : Below w.heap.size w wq := by rw [← hwq]; exact below_drewN (hbel.alloc hs1 _) _
      have f1 : wq.cell? ⟨wr.heap.size, 1, none⟩ = some (.int .i64 y) := by rw [← hwq]; simp
      have f2 : wq.cell? ⟨g, L * 3 + 1, none⟩ = some (.int .i64 q2) := by rw [← hwq]; exact k2' _
      have f3 : wq.frozen? ⟨g, L * 3 + 1, none⟩ = false := by rw [← hwq]; exact pastF k4 hg2 _
      have R1 : Hid ((wq.setCell ⟨g, L * 3 + 1, none⟩ (.int .i64 y)).ownsRow w.heap.size 95 3 (.slice (some ⟨g, 0, none⟩) (L + 1) c) (i ++ [(q1, y, q3)]).length (flat (i ++ [(q1, y, q3)]))) := by
       unfold Hid; rw [← HLL.out]; exact own_setHi (w := wq) O2
      have R2 : Hid (Below w.heap.size w (wq.setCell ⟨g, L * 3 + 1, none⟩ (.int .i64 y))) := B2.setCell hg1 _
      have hk1 : (i ++ [(q1, y, q3)]).length ≤ k + 1 := by rw [List.length_append, HLL.out]; simp; omega
      clear hwq hbel HO O2 B2 c1 c2 c3 k2 k2' k3 k3' k4
      go_wp2
      go_roundw
      case rel => exact ⟨k + 1, i ++ [(q1, y, q3)], by omega, by go_num, hk1, HE2, R1, R2⟩
      case measure => simp [intOf]; omega
     ·have e2 : (q2 + 1 == x) = false := by simpa using hxx
      subst hzz
      clear HK hxx
      go_wp2
      go_quiet (fail)
      generalize hwq : (World.drewN _ _) = wq at *
      have O2 : wq.ownsRow w.heap.size 95 3 (.slice (some ⟨g, 0, none⟩) (L + 1) c) (i ++ [(q1, q2, q3)]).length (flat (i ++ [(q1, q2, q3)])) := by rw [← hwq]; exact (HLL.out ▸ HO.out).alloc _
      have B2 : Below w.heap.size w wq := by rw [← hwq]; exact below_drewN (hbel.alloc hs1 _) _
      have f0 : wq.cell? ⟨wr.heap.size, 0, none⟩ = some (.int .i64 x) := by rw [← hwq]; simp
      have f1 : wq.cell? ⟨wr.heap.size, 1, none⟩ = some (.int .i64 y) := by rw [← hwq]; simp
      have f2 : wq.cell? ⟨wr.heap.size, 2, none⟩ = some (.int .i64 q3) := by rw [← hwq]; simp
      have hl2 : (i ++ [(q1, q2, q3)]).length = L + 1 := by rw [List.length_append, HLL.out]; rfl
      rw [hl2] at O2
      have HL2 : Hid ((i ++ [(q1, q2, q3)]).length = L + 1) := hl2
      clear hwq hbel HO c1 c2 c3 k2 k2' k3 k3' k4 hl2
      have hs2 := B2.size
      go_wp2_with (at_builtin; refine wpList_append_own _ rfl _ _ 96 rfl w.heap.size 95 i0 (.agg #[.int .i64 0, .int .i64 0, .int .i64 0]) 3 24 Tryz.underlying96 hi hz0 hz1 hz2 rfl (by decide) _ _ _ rfl (O2.alloc _) ⟨wq.heap.size, 0, none⟩ 1 1 [.int .i64 x, .int .i64 y, .int .i64 q3] rfl rfl ?d1 ?d2 ?d3 ?d4 ?d5 ?_)
      try (case d1 => exact one_new wq _ _ _ _)
      case d2 => first | (intro u hu; simp at hu; rcases hu with rfl | rfl | rfl <;> rfl) | (refine ⟨?_, ?_, ?_⟩ <;> rfl)
      case d3 => unfold maxLen; omega
      case d4 => omega
      case d5 => first | omega | (simp; omega)
      ·intro v' w2 hown2 hgrow _
       have R2 := Below.grown (B2.alloc hs2 (.cells #[.int .i64 x, .int .i64 y, .int .i64 q3] 95)) hgrow (by simp; omega) HW.out
       have R1 : w2.ownsRow w.heap.size 95 3 v' ((i ++ [(q1, q2, q3)]) ++ [(x, y, q3)]).length (flat ((i ++ [(q1, q2, q3)]) ++ [(x, y, q3)])) := by
        rw [flat_append (i ++ [(q1, q2, q3)]), flat_three, List.length_append, HL2.out]; exact hown2
       have hk1 : ((i ++ [(q1, q2, q3)]) ++ [(x, y, q3)]).length ≤ k + 1 := by rw [List.length_append, HL2.out]; simp; omega
       clear hown2 hgrow
       go_wp2
       go_roundw
       case rel => exact ⟨k + 1, (i ++ [(q1, q2, q3)]) ++ [(x, y, q3)], by omega, by go_num, hk1, HE, R1, R2⟩
       case measure => simp [intOf]; omega
    ·have e1 : (q3 == z) = false := by simpa using hzz
     clear HK hzz
     go_wp2
     go_quiet (fail)
     generalize hwq : (World.drewN _ _) = wq at *
     have O2 : wq.ownsRow w.heap.size 95 3 (.slice (some ⟨g, 0, none⟩) (L + 1) c) (i ++ [(q1, q2, q3)]).length (flat (i ++ [(q1, q2, q3)])) := by rw [← hwq]; exact (HLL.out ▸ HO.out).alloc _
     have B2 : Below w.heap.size w wq := by rw [← hwq]; exact below_drewN (hbel.alloc hs1 _) _
     have f0 : wq.cell? ⟨wr.heap.size, 0, none⟩ = some (.int .i64 x) := by rw [← hwq]; simp
     have f1 : wq.cell? ⟨wr.heap.size, 1, none⟩ = some (.int .i64 y) := by rw [← hwq]; simp
     have f2 : wq.cell? ⟨wr.heap.size, 2, none⟩ = some (.int .i64 z) := by rw [← hwq]; simp
     have hl2 : (i ++ [(q1, q2, q3)]).length = L + 1 := by rw [List.length_append, HLL.out]; rfl
     rw [hl2] at O2
     have HL2 : Hid ((i ++ [(q1, q2, q3)]).length = L + 1) := hl2
     clear hwq hbel HO c1 c2 c3 k2 k2' k3 k3' k4 hl2
     have hs2 := B2.size
     go_wp2_with (at_builtin; refine wpList_append_own _ rfl _ _ 96 rfl w.heap.size 95 i0 (.agg #[.int .i64 0, .int .i64 0, .int .i64 0]) 3 24 Tryz.underlying96 hi hz0 hz1 hz2 rfl (by decide) _ _ _ rfl (O2.alloc _) ⟨wq.heap.size, 0, none⟩ 1 1 [.int .i64 x, .int .i64 y, .int .i64 z] rfl rfl ?e1 ?e2 ?e3 ?e4 ?e5 ?_)
     try (case e1 => exact one_new wq _ _ _ _)
     case e2 => first | (intro u hu; simp at hu; rcases hu with rfl | rfl | rfl <;> rfl) | (refine ⟨?_, ?_, ?_⟩ <;> rfl)
     case e3 => unfold maxLen; omega
     case e4 => omega
     case e5 => first | omega | (simp; omega)
     ·intro v' w2 hown2 hgrow _
      have R2 := Below.grown (B2.alloc hs2 (.cells #[.int .i64 x, .int .i64 y, .int .i64 z] 95)) hgrow (by simp; omega) HW.out
      have R1 : w2.ownsRow w.heap.size 95 3 v' ((i ++ [(q1, q2, q3)]) ++ [(x, y, z)]).length (flat ((i ++ [(q1, q2, q3)]) ++ [(x, y, z)])) := by
       rw [flat_append (i ++ [(q1, q2, q3)]), flat_three, List.length_append, HL2.out]; exact hown2
      have hk1 : ((i ++ [(q1, q2, q3)]) ++ [(x, y, z)]).length ≤ k + 1 := by rw [List.length_append, HL2.out]; simp; omega
      clear hown2 hgrow
      go_wp2
      go_roundw
      case rel => exact ⟨k + 1, (i ++ [(q1, q2, q3)]) ++ [(x, y, z)], by omega, by go_num, hk1, HE, R1, R2⟩
      case measure => simp [intOf]; omega
  ·have HD : Hid (Ris nv 0 out ∧ ∀ x, at_ out x = at_ l x) := by
    have := HK.out; unfold JInv at this
    rw [List.drop_of_length_le (by have := HL.out; omega), List.append_nil] at this
    exact this
   go_wp2
   go_ret
   exact ⟨_, out, rfl, hown, HD.out.1, HD.out.2, hbel⟩
theorem Mut.other {w w' : World} {g lo hi : Nat} (m : Mut w w' g lo hi) {b i : Nat} {u : Value} (h : w.cell? ⟨b, i, none⟩ = some u) (hb : b ≠ g) : w'.cell? ⟨b, i, none⟩ = some u :=
 (World.cell?_of_block (a := ⟨b, i, none⟩) (m.block b (World.block_lt_of_cell? w _ h) hb)).trans h
theorem Mut.alike {w w' W : World} {g lo hi : Nat} (m : Mut w w' g lo hi) (a : Alike w' W) : Mut w W g lo hi := by
 obtain ⟨h1, h2, h3, h4⟩ := a
 have hc : ∀ p, W.cell? p = w'.cell? p := fun p => by simp only [World.cell?, h1]
 have hf : ∀ p, W.frozen? p = w'.frozen? p := fun p => by simp only [World.frozen?, h1]
 exact ⟨h2.trans m.os, h3.trans m.tape, h4.trans m.output, by rw [h1]; exact m.size, fun k hk hg => by rw [h1]; exact m.block k hk hg, fun i hi => (hc _).trans (m.cell i hi), fun i => (hf _).trans (m.frozen i)⟩
theorem own_heap {w W : World} {base : Nat} {e : TypeId} {size : Nat} {v : Value} {n : Nat} {xs : List Value} (h : w.ownsRow base e size v n xs) (a : Alike w W) : W.ownsRow base e size v n xs := by
 unfold World.ownsRow at *; rw [a.heap]; exact h
theorem cell_alike {w W : World} {p : Addr} {u : Value} (h : w.cell? p = some u) (a : Alike w W) : W.cell? p = some u := by
 simp only [World.cell?, a.heap] at *; exact h
end Go.Proofs.YtinlolmjafjhnaaGreatDoor.tri
end

section
/- Runs of values of type string in memory; what trie.startsOf answers: of each block how many runs end ahead of it. -/
set_option linter.unusedVariables false
set_option linter.unusedSimpArgs false
namespace Go.Proofs.YtinlolmjafjhnaaGreatDoor.tri.str
open Go.RowKit Go.Proofs.YtinlolmjafjhnaaGreatDoor.tri
open Go.Proofs.YtinlolmjafjhnaaGreatDoor.rng (ret_int ret_bool below_drewN info_parts own_below')

/-- The cells of runs; V: the value that stands at a place. -/
def flat (V : Int → ByteArray) (l : List E) : List Value := l.flatMap fun p => [.int .i64 p.1, .int .i64 p.2.1, .string (V (p.2.2))]
theorem flat_cons (V : Int → ByteArray) (p : E) (l : List E) : flat V (p :: l) = .int .i64 p.1 :: .int .i64 p.2.1 :: .string (V (p.2.2)) :: flat V l := rfl
theorem flat_append (V : Int → ByteArray) (l r : List E) : flat V (l ++ r) = flat V l ++ flat V r := by simp [flat]
theorem flat_three (V : Int → ByteArray) (x y z : Int) : flat V [(x, y, z)] = [.int .i64 x, .int .i64 y, .string (V (z))] := rfl
theorem flat_length (V : Int → ByteArray) (l : List E) : (flat V l).length = l.length * 3 := by
 induction l with
 | nil => rfl
 | cons x l ih => rw [flat_cons]; simp; omega
theorem flat_get (V : Int → ByteArray) : ∀ (l : List E) (i : Nat) (p : E), l[i]? = some p → (flat V l)[i * 3]? = some (.int .i64 p.1) ∧ (flat V l)[i * 3 + 1]? = some (.int .i64 p.2.1) ∧ (flat V l)[i * 3 + 2]? = some (.string (V (p.2.2)))
 | [], i, p, h => by simp at h
 | x :: l, 0, p, h => by simp at h; subst h; exact ⟨rfl, rfl, rfl⟩
 | x :: l, i + 1, p, h => by
  have := flat_get V l i p (by simpa using h)
  rw [flat_cons, show (i + 1) * 3 = i * 3 + 1 + 1 + 1 from by omega]
  simpa using this
/-- The runs l can be read from the address on. -/
def RV (w : World) (V : Int → ByteArray) (ao : Option Addr) (l : List E) : Prop :=
 l = [] ∨ ∃ b, ao = some ⟨b, 0, none⟩ ∧ ∀ i p, l[i]? = some p → w.cell? ⟨b, i * 3, none⟩ = some (.int .i64 p.1) ∧ w.cell? ⟨b, i * 3 + 1, none⟩ = some (.int .i64 p.2.1) ∧ w.cell? ⟨b, i * 3 + 2, none⟩ = some (.string (V (p.2.2)))
theorem RV.below {w w' : World} {V : Int → ByteArray} {ao : Option Addr} {l : List E} (h : RV w V ao l) (hb : Below w.heap.size w w') : RV w' V ao l := by
 rcases h with h | ⟨b, rfl, h⟩
 ·exact .inl h
 ·exact .inr ⟨b, rfl, fun i p hi => by
   obtain ⟨h1, h2, h3⟩ := h i p hi
   exact ⟨(hb.cell (World.block_lt_of_cell? w _ h1)).trans h1, (hb.cell (World.block_lt_of_cell? w _ h2)).trans h2, (hb.cell (World.block_lt_of_cell? w _ h3)).trans h3⟩⟩
theorem RV.some {w : World} {V : Int → ByteArray} {ao : Option Addr} {l : List E} (h : RV w V ao l) (h0 : 0 < l.length) : ∃ b, ao = some ⟨b, 0, none⟩ ∧ ∀ i p, l[i]? = Option.some p → w.cell? ⟨b, i * 3, none⟩ = Option.some (.int .i64 p.1) ∧ w.cell? ⟨b, i * 3 + 1, none⟩ = Option.some (.int .i64 p.2.1) ∧ w.cell? ⟨b, i * 3 + 2, none⟩ = Option.some (.string (V (p.2.2))) := by
 rcases h with rfl | h
 ·simp at h0
 ·exact h
/-- v is a row of the call's own, of runs l. -/
def Own (w : World) (base : Nat) (V : Int → ByteArray) (v : Value) (l : List E) : Prop := w.ownsRow base 138 3 v l.length (flat V l)
theorem Own.view {w : World} {B : Nat} {V : Int → ByteArray} {v : Value} {l : List E} (h : Own w B V v l) : ∃ ao cap, v = .slice ao l.length cap ∧ RV w V ao l ∧ (ao = none → cap = 0) := by
 rcases h.2 with ⟨rfl, h0⟩ | ⟨g, cap, cur, rfl, hg, hgg, hc, hm, hs, ht⟩
 ·exact ⟨none, 0, by rw [h0], .inl (List.eq_nil_of_length_eq_zero h0), fun _ => rfl⟩
 ·refine ⟨_, cap, rfl, .inr ⟨g, rfl, fun i p hi => ?_⟩, fun e => by cases e⟩
  obtain ⟨e1, e2, e3⟩ := flat_get V l i p hi
  have hil : i < l.length := (List.getElem?_eq_some_iff.1 hi).1
  have h' : w.ownsRow B 138 3 (.slice (some ⟨g, 0, none⟩) l.length cap) l.length (flat V l) := h
  exact ⟨(h'.cellAt _ (by omega)).trans e1, (h'.cellAt _ (by omega)).trans e2, (h'.cellAt _ (by omega)).trans e3⟩

theorem infoInt : (Tryz.prog.info? 3).map (fun i => (i.zero, i.size, i.bytes)) = some (some (.int .i64 0), 1, 8) := by kernel_rfl
set_option maxRecDepth 100000 in
set_option maxHeartbeats 4000000 in
theorem starts_any (nv : Int) (V : Int → ByteArray) (ao : Option Addr) (cap : Nat) (s : List E) (w : World) (hv : RV w V ao s) (hr : Ris nv 0 s) (h0 : 0 < s.length) :
  Calls Tryz.prog 83 #[.slice ao s.length cap] w fun e w' => ∃ b, e = .returned (.slice (some ⟨b, 0, none⟩) 4353 4353) ∧ w.heap.size ≤ b ∧ w'.rowIs b 3 4353 (fun j => .int .i64 (cntH s (256 * (j : Int)))) ∧ Below w.heap.size w w' := by
 have hmk := run_make_row' (P := Tryz.prog) 37 3 (.int .i64 0) 8 Tryz.underlying37 infoInt rfl .i64 .i64 4353 (by decide) (by decide) w
 have hrow := World.rowIs_made w (.int .i64 0) 4353 3
 have hb1 := (Below.refl w.heap.size w).alloc (Nat.le_refl _) (.cells (madeCells #[.int .i64 0] 4353) 3)
 have hsz : (w.alloc (.cells (madeCells #[.int .i64 0] 4353) 3)).heap.size = w.heap.size + 1 := by simp
 generalize w.alloc (.cells (madeCells #[.int .i64 0] 4353) 3) = w1 at hmk hrow hb1 hsz
 have e4 : ((4353 : Nat) : Int) = 4353 := rfl
 rw [e4] at hmk
 have HROW : Hid (w1.rowIs w.heap.size 3 4353 (fun _ => .int .i64 0)) := hrow
 have HV : Hid (RV w V ao s) := hv
 have HR : Hid (Ris nv 0 s) := hr
 have hlen := ris_len hr
 obtain ⟨n, hl⟩ : ∃ n, s.length = n := ⟨_, rfl⟩
 rw [hl] at h0 hlen ⊢
 have HL : Hid (s.length = n) := hl
 have hn0 : ((n : Int) == 0) = false := by simp; omega
 clear hv hr hl hrow e4
 go_enter Tryz.func83, Tryz.ntmps83
 go_wp2
 go_loopw [4, 12] (fun ed i wr => ∃ (k e : Nat) (f : Nat → Value), k ≤ 4353 ∧ i = .int .i64 k ∧ ed = .int .i64 e ∧ e ≤ n ∧ Hid (e ≤ cntH s (256 * (k : Int))) ∧ Hid (∀ j, j < k → f j = .int .i64 (cntH s (256 * (j : Int)))) ∧ Hid (wr.rowIs w.heap.size 3 4353 f) ∧ Below w.heap.size w wr) (fun _ i _ => 4353 - (intOf i).toNat)
 case atStart => exact ⟨0, 0, _, Nat.zero_le _, rfl, rfl, Nat.zero_le _, Nat.zero_le _, fun j hj => by omega, HROW, hb1⟩
 case round =>
  obtain ⟨k, e, f, hk, rfl, rfl, hen, HE, HFk, HRW, hbel⟩ := hrel
  clear hmk HROW hb1 hsz
  by_cases hlt : k < 4353
  ·have hklt : (k : Int) < 4353 := by omega
   have hk0 : (0 : Int) ≤ k := by omega
   have hshl : ((k : Int) <<< (8 : Nat)) = 256 * (k : Int) := by rw [Int.shiftLeft_eq]; omega
   have hcell := HRW.out.cell hlt
   have hfrz := HRW.out.frozen k
   generalize wr = w3 at *
   go_wp2
   go_loopw [4] (fun ed wr => ∃ (e : Nat), ed = .int .i64 e ∧ e ≤ n ∧ Hid (e ≤ cntH s (256 * (k : Int))) ∧ wr = w3) (fun ed _ => n - (intOf ed).toNat)
   case atStart => exact ⟨e, rfl, hen, HE, rfl⟩
   case round =>
    obtain ⟨e, rfl, hen, HE, rfl⟩ := hrel
    have FIN : Hid (cntH s (256 * (k : Int)) ≤ e → (∀ j, j < k + 1 → (fun j => if j = k then Value.int .i64 (e : Int) else f j) j = .int .i64 (cntH s (256 * (j : Int)))) ∧ e ≤ cntH s (256 * ((k + 1 : Nat) : Int))) := fun hle => by
     have hee : e = cntH s (256 * (k : Int)) := Nat.le_antisymm HE.out hle
     refine ⟨fun j hj => ?_, ?_⟩
     ·by_cases hjk : j = k
      ·subst hjk; simp only [if_true]; rw [hee]
      ·simp only [if_neg hjk]; exact HFk.out j (by omega)
     ·rw [hee]; exact cntH_mono (by omega)
    have RS : Hid ((wr.setCell ⟨w.heap.size, k, none⟩ (.int .i64 (e : Int))).rowIs w.heap.size 3 4353 (fun j => if j = k then Value.int .i64 (e : Int) else f j)) := HRW.out.set k _
    have R2 := hbel.setCell (p := ⟨w.heap.size, k, none⟩) (Nat.le_refl _) (.int .i64 (e : Int))
    by_cases hen2 : e < n
    ·obtain ⟨x, y, z, hp⟩ := get3 HL.out hen2
     obtain ⟨b, rfl, hc⟩ := (HV.out.below hbel).some (by have := HL.out; omega)
     obtain ⟨c1, c2, c3⟩ := hc e (x, y, z) hp
     simp only at c1 c2 c3
     have HG := cntH_get (x := 256 * (k : Int)) HR.out hp
     simp only at HG
     by_cases ht : y < 256 * (k : Int)
     ·have HE2 : Hid (e + 1 ≤ cntH s (256 * (k : Int))) := HG.1 ht
      clear FIN RS R2 hc hp HG
      go_wp2
      go_roundw
      case rel => exact ⟨e + 1, by go_num, by omega, HE2, by first | trivial | rfl⟩
      case measure => simp [intOf]; omega
     ·have FF := FIN.out (Nat.le_of_not_lt fun h => ht (HG.2 h))
      have HF1 : Hid (∀ j, j < k + 1 → (fun j => if j = k then Value.int .i64 (e : Int) else f j) j = .int .i64 (cntH s (256 * (j : Int)))) := FF.1
      have HF2 : Hid (e ≤ cntH s (256 * ((k + 1 : Nat) : Int))) := FF.2
      clear FIN FF hc hp HG
      go_wp2
      go_roundw
      case rel => exact ⟨k + 1, e, _, by omega, by go_num, rfl, hen, HF2, HF1, RS, R2⟩
      case measure => simp [intOf]; omega
    ·have FF := FIN.out (by have := cntH_le s (256 * (k : Int)); have := HL.out; omega)
     have HF1 : Hid (∀ j, j < k + 1 → (fun j => if j = k then Value.int .i64 (e : Int) else f j) j = .int .i64 (cntH s (256 * (j : Int)))) := FF.1
     have HF2 : Hid (e ≤ cntH s (256 * ((k + 1 : Nat) : Int))) := FF.2
     clear FIN FF
     go_wp2
     go_roundw
     case rel => exact ⟨k + 1, e, _, by omega, by go_num, rfl, hen, HF2, HF1, RS, R2⟩
     case measure => simp [intOf]; omega
  ·go_wp2
   go_ret
   exact ⟨_, rfl, Nat.le_refl _, HRW.out.congr (fun j hj => HFk.out j (by omega)), hbel⟩
set_option maxHeartbeats 400000 in
theorem starts_none (cap : Nat) (ao : Option Addr) (w : World) :
  Calls Tryz.prog 83 #[.slice ao 0 cap] w fun e w' => e = .returned (.slice none 0 0) ∧ w' = w := by
 go_enter Tryz.func83, Tryz.ntmps83
 go_wp2
 go_ret
 exact ⟨rfl, rfl⟩
/-- The values: V tells which one stands at a place. -/
def Vals (w : World) (V : Int → ByteArray) (va : Option Addr) (n : Nat) : Prop := n = 0 ∨ ∃ b off, va = some ⟨b, off, none⟩ ∧ ∀ i : Nat, i < n → w.cell? ⟨b, off + i, none⟩ = some (.string (V ((i : Int))))
/-- In block tb lies a trie of the runs s. -/
structure TrieIs (w : World) (V : Int → ByteArray) (tb : Nat) (s : List E) : Prop where
 runs : ∃ ra rc, w.cell? ⟨tb, 0, none⟩ = some (.slice ra s.length rc) ∧ RV w V ra s
 starts : 0 < s.length → ∃ sb, w.cell? ⟨tb, 1, none⟩ = some (.slice (some ⟨sb, 0, none⟩) 4353 4353) ∧ ∀ j, j < 4353 → w.cell? ⟨sb, j, none⟩ = some (.int .i64 (cntH s (256 * (j : Int))))
theorem TrieIs.below {w w' : World} {V : Int → ByteArray} {tb : Nat} {s : List E} (h : TrieIs w V tb s) (hb : Below w.heap.size w w') : TrieIs w' V tb s := by
 obtain ⟨⟨ra, rc, h1, h2⟩, h3⟩ := h
 refine ⟨⟨ra, rc, (hb.cell (World.block_lt_of_cell? w _ h1)).trans h1, h2.below hb⟩, fun h0 => ?_⟩
 obtain ⟨sb, h4, h5⟩ := h3 h0
 exact ⟨sb, (hb.cell (World.block_lt_of_cell? w _ h4)).trans h4, fun j hj => (hb.cell (World.block_lt_of_cell? w _ (h5 j hj))).trans (h5 j hj)⟩
end Go.Proofs.YtinlolmjafjhnaaGreatDoor.tri.str
end
