/- Texts that the proof leans on, one behind the other. -/
import Derived.Test.YtinlolmjafjhnaaGreatDoorBdTri1
import Derived.Maps.AppendAt
import Derived.Deep.RegionWith

section
/- What trie.overlay answers: the one list laid over the other. -/
set_option linter.unusedVariables false
set_option linter.unusedSimpArgs false
namespace Go.Proofs.YtinlolmjafjhnaaGreatDoor.tri
open Go.RowKit
open Go.Proofs.YtinlolmjafjhnaaGreatDoor.rng (ret_int ret_bool below_drewN info_parts own_below')

/-- The length of a slice. -/
def lenOf : Value → Nat | .slice _ n _ => n | _ => 0
theorem past1 {w : World} {b i : Nat} {u : Value} (h : w.cell? ⟨b, i, none⟩ = some u) (o : Obj) : (w.alloc o).cell? ⟨b, i, none⟩ = some u :=
 (Below.cell ((Below.refl w.heap.size w).alloc (Nat.le_refl _) o) (World.block_lt_of_cell? w _ h)).trans h
theorem pastF {w : World} {b i : Nat} {t : Bool} (h : w.frozen? ⟨b, i, none⟩ = t) (hb : b < w.heap.size) (o : Obj) : (w.alloc o).frozen? ⟨b, i, none⟩ = t :=
 (Below.frozen ((Below.refl w.heap.size w).alloc (Nat.le_refl _) o) hb).trans h
theorem next_at {W : World} {g1 oo c' q1 o1 M : Nat} {p : E} {u1 : List E} (h : EAt W g1 oo (p :: u1)) (hl : u1.length = q1) (hq : q1 + 1 ≤ c') (ho : o1 ≤ oo) (hb : oo + (q1 + 1) * 3 ≤ M) :
  ∃ oo', Hid ((if c' = 1 then some ⟨g1, oo, none⟩ else some ⟨g1, oo + 3, none⟩ : Option Addr) = some ⟨g1, oo', none⟩) ∧ o1 ≤ oo' ∧ oo' + q1 * 3 ≤ M ∧ Hid (EAt W g1 oo' u1) := by
 by_cases hc : c' = 1
 ·obtain rfl : u1 = [] := List.eq_nil_of_length_eq_zero (by omega)
  exact ⟨oo, by unfold Hid; rw [if_pos hc], ho, by omega, fun i p hp => by simp at hp⟩
 ·refine ⟨oo + 3, by unfold Hid; rw [if_neg hc], by omega, by omega, ?_⟩
  unfold Hid; have := h.drop 1; simpa using this
theorem EAt.kept {w w' : World} {b off : Nat} {l : List E} {row : Option Nat} (h : EAt w b off l) (hg : w.grownBy w' row) (hne : some b ≠ row) : EAt w' b off l := fun i p hp => by
 obtain ⟨h1, h2, h3⟩ := h i p hp
 exact ⟨hg.cell h1 hne, hg.cell h2 hne, hg.cell h3 hne⟩
theorem pre_len {a b T : List E} (h : a ++ b = T) (hT : T.length ≤ 1200000) : a.length ≤ 1200000 := by
 subst h; rw [List.length_append] at hT; omega

set_option maxRecDepth 10000 in
set_option maxHeartbeats 20000000 in
theorem overlay_any (g1 o1 m c1 g2 o2 n c2 : Nat) (u v : List E) (w : World) (hu : u.length = m) (hv : v.length = n) (hm : m ≤ 1200000) (hn : n ≤ 1200000) (hmc : m ≤ c1) (hcm : c1 ≤ 9223372036854775807) (hT : (over u v).length ≤ 1200000)
  (hgv : ∀ e ∈ v, 0 ≤ e.1 ∧ e.1 ≤ 1114111 ∧ 0 ≤ e.2.1 ∧ e.2.1 ≤ 1114111) (h1 : EAt w g1 o1 u) (h2 : EAt w g2 o2 v) (hg1 : g1 < w.heap.size) (hfz : ∀ i, w.frozen? ⟨g1, i, none⟩ = false) (hd : g2 ≠ g1 ∨ o2 + n * 3 ≤ o1 ∨ o1 + m * 3 ≤ o2) :
  Calls Tryz.prog 116 #[.slice (some ⟨g1, o1, none⟩) m c1, .slice (some ⟨g2, o2, none⟩) n c2] w fun e w' => ∃ v', e = .returned v' ∧ Own w' w.heap.size v' (over u v) ∧ Mut w w' g1 o1 (o1 + m * 3) := by
 obtain ⟨i0, hi, hz0, hz1, hz2⟩ := info_parts infoEntry
 obtain ⟨T, hTe⟩ : ∃ T, over u v = T := ⟨_, rfl⟩
 rw [hTe] at hT ⊢
 have HT : Hid (T.length ≤ 1200000) := hT
 have HI0 : Hid ([] ++ over u (v.drop 0) = T) := hTe
 have H2 : Hid (∀ wx, Mut w wx g1 o1 (o1 + m * 3) → EAt wx g2 o2 v) := fun wx hmu => h2.mut hmu (by rw [hv]; omega)
 have HF : Hid (∀ i, w.frozen? ⟨g1, i, none⟩ = false) := hfz
 have HGV : Hid (∀ e ∈ v, 0 ≤ e.1 ∧ e.1 ≤ 1114111 ∧ 0 ≤ e.2.1 ∧ e.2.1 ≤ 1114111) := hgv
 have HU : Hid (u.length = m) := hu
 have HVL : Hid (v.length = n) := hv
 have H1 : Hid (EAt w g1 o1 u) := h1
 obtain ⟨N, hN⟩ : ∃ N : Nat, (m : Int) + (n : Int) = (N : Int) := ⟨m + n, by omega⟩
 obtain ⟨w1, hmk, hown1, hgr1⟩ := run_make_own (P := Tryz.prog) w w.heap.size 96 95 i0 _ 3 Tryz.underlying96 hi hz0 hz1 .i64 .i64 N (by rw [hz2]; omega) (by unfold maxLen; omega) (Nat.le_refl _)
 have HM1 : Hid (Mut w w1 g1 o1 (o1 + m * 3)) := (Mut.refl w g1 o1 (o1 + m * 3)).grown hg1 hgr1 (fun j e => by cases e)
 have HE1 : Hid (EAt w1 g1 o1 u) := h1.kept hgr1 (by simp)
 have HO1 : Hid (w1.ownsRow w.heap.size 95 3 (.slice (some ⟨w.heap.size, 0, none⟩) 0 N) 0 []) := hown1
 clear hown1 hgr1 h1 h2 hT hTe hfz hgv hu hv hd H1
 go_enter Tryz.func116, Tryz.ntmps116
 go_wp2
 go_loopw [0, 5, 17] (fun a0 o i wr => ∃ (k oo q c' : Nat) (u' out : List E), k ≤ n ∧ i = .int .i64 k ∧ a0 = .slice (some ⟨g1, oo, none⟩) q c' ∧ q ≤ c' ∧ c' ≤ 9223372036854775807 ∧ o1 ≤ oo ∧ oo + q * 3 ≤ o1 + m * 3 ∧ u'.length = q ∧ out.length ≤ 1200000 ∧ Hid (out ++ over u' (v.drop k) = T) ∧ Hid (EAt wr g1 oo u') ∧ wr.ownsRow w.heap.size 95 3 o out.length (flat out) ∧ Mut w wr g1 o1 (o1 + m * 3)) (fun _ _ i _ => n - (intOf i).toNat)
 case atStart => exact ⟨0, o1, m, c1, u, [], Nat.zero_le _, rfl, rfl, hmc, hcm, Nat.le_refl _, Nat.le_refl _, HU, Nat.zero_le _, HI0, HE1, HO1, HM1⟩
 case round =>
  obtain ⟨k, oo, q, c', u', out, hk, rfl, rfl, hqc, hcc, hoo, hoq, hul, hol, HI, HE, hown, hmut⟩ := hrel
  clear hmk HO1 HM1 HE1 HI0 hN
  have HUL : Hid (u'.length = q) := hul
  clear hul
  by_cases hlt : k < n
  ·obtain ⟨x, y, z, hp⟩ := get3 HVL.out hlt
   obtain ⟨a1, a2, a3⟩ := H2.out wr hmut k (x, y, z) hp
   simp only at a1 a2 a3
   obtain ⟨hx0, hx1, hy0, hy1⟩ := HGV.out (x, y, z) (List.mem_of_getElem? hp)
   simp only at hx0 hx1 hy0 hy1
   have HD : Hid (v.drop k = (x, y, z) :: v.drop (k + 1)) := dropX hp
   have HJ : Hid (out ++ ((step (x, y, z) u').1 ++ (x, y, z) :: over (step (x, y, z) u').2 (v.drop (k + 1))) = T) := by
    have := HI.out; rw [HD.out] at this; exact this
   have HB7 : Hid (∀ j, u5.ownBlock = some j → j ≠ wr.heap.size) := fun j e => by have := (hown.lt _ e).2; omega
   have M0 := hmut.alloc hg1 (.cells #[.int .i64 x, .int .i64 y, .int .i64 z] 95)
   have O0 := hown.alloc (.cells #[.int .i64 x, .int .i64 y, .int .i64 z] 95)
   have HE0 : Hid (EAt (wr.alloc (.cells #[.int .i64 x, .int .i64 y, .int .i64 z] 95)) g1 oo u') := HE.out.below ((Below.refl _ _).alloc (Nat.le_refl _) _)
   have hs0 := hmut.size
   clear hp HI HE hown hmut HD
   generalize wr = w3 at *
   go_wp2
   go_loopw [0, 5] (fun a0 o wr => ∃ (oo q c' : Nat) (u' out : List E), a0 = .slice (some ⟨g1, oo, none⟩) q c' ∧ q ≤ c' ∧ c' ≤ 9223372036854775807 ∧ o1 ≤ oo ∧ oo + q * 3 ≤ o1 + m * 3 ∧ Hid (u'.length = q) ∧ out.length ≤ 1200000 ∧ Hid (out ++ ((step (x, y, z) u').1 ++ (x, y, z) :: over (step (x, y, z) u').2 (v.drop (k + 1))) = T) ∧ Hid (∀ j, o.ownBlock = some j → j ≠ w3.heap.size) ∧ w3.heap.size < wr.heap.size ∧ wr.cell? ⟨w3.heap.size, 0, none⟩ = some (.int .i64 x) ∧ wr.cell? ⟨w3.heap.size, 1, none⟩ = some (.int .i64 y) ∧ wr.cell? ⟨w3.heap.size, 2, none⟩ = some (.int .i64 z) ∧ Hid (EAt wr g1 oo u') ∧ wr.ownsRow w.heap.size 95 3 o out.length (flat out) ∧ Mut w wr g1 o1 (o1 + m * 3)) (fun a0 _ _ => lenOf a0)
   case atStart => exact ⟨oo, q, c', u', out, rfl, hqc, hcc, hoo, hoq, HUL, hol, HJ, HB7, by simp, by simp, by simp, by simp, HE0, O0, M0⟩
   case round =>
    obtain ⟨oo, q, c', u', out, rfl, hqc, hcc, hoo, hoq, HUL, hol, HJ, HB7, hb7, f0, f1, f2, HE, hown, hmut⟩ := hrel
    clear M0 O0 HE0 a1 a2 a3
    have HW : Hid (∀ j, u5.ownBlock = some j → w.heap.size ≤ j) := fun j e => (hown.lt _ e).1
    have hs1 := hmut.size
    have hxm : x - 1 < 9223372036854775807 := by omega
    cases u' with
    | nil =>
     obtain rfl : q = 0 := by have := HUL.out; simpa using this.symm
     have HE' : Hid ((out ++ [(x, y, z)]) ++ over [] (v.drop (k + 1)) = T) := by
      have := HJ.out; unfold Hid; rw [List.append_assoc]; exact this
     have hq0 : decide ((0 : Int) < 0) = false := by decide
     clear HJ
     go_wp2
     go_quiet (fail)
     generalize hwq : (World.drewN _ _) = wq at *
     have O2 : wq.ownsRow w.heap.size 95 3 u5 out.length (flat out) := by rw [← hwq]; exact hown
     have M2 : Mut w wq g1 o1 (o1 + m * 3) := by rw [← hwq]; exact hmut.drewN _
     have E2 : Hid (EAt wq g1 oo []) := by unfold Hid; rw [← hwq]; exact HE.out
     have k0 : wq.cell? ⟨w3.heap.size, 0, none⟩ = some (.int .i64 x) := by rw [← hwq]; exact f0
     have k1 : wq.cell? ⟨w3.heap.size, 1, none⟩ = some (.int .i64 y) := by rw [← hwq]; exact f1
     have k2 : wq.cell? ⟨w3.heap.size, 2, none⟩ = some (.int .i64 z) := by rw [← hwq]; exact f2
     have hb8 : w3.heap.size < wq.heap.size := by rw [← hwq]; exact hb7
     have hs2 := M2.size
     clear hwq hown hmut HE f0 f1 f2 hb7
     go_wp2_with (at_builtin; refine wpList_append_own_at _ rfl _ _ 96 rfl w.heap.size 95 i0 (.agg #[.int .i64 0, .int .i64 0, .int .i64 0]) 3 24 Tryz.underlying96 hi hz0 hz1 hz2 rfl (by decide) _ _ _ rfl (O2.alloc _) ⟨wq.heap.size, 0, none⟩ 1 1 [.int .i64 x, .int .i64 y, .int .i64 z] rfl rfl ?c1b ?c2b ?c3b ?c4b ?c5b ?_)
     try (case c1b => have := one_new wq (.int .i64 x) (.int .i64 y) (.int .i64 z) 95; simpa using this)
     case c2b => first | (intro u hu; simp at hu; rcases hu with rfl | rfl | rfl <;> rfl) | (refine ⟨?_, ?_, ?_⟩ <;> rfl)
     case c3b => unfold maxLen; omega
     case c4b => omega
     case c5b => first | omega | (simp; omega)
     ·intro v5 w5 hown5 hgrow5 _ _
      have R2 := (M2.alloc hg1 (.cells #[.int .i64 x, .int .i64 y, .int .i64 z] 95)).grown hg1 hgrow5 HW.out
      have R1 : w5.ownsRow w.heap.size 95 3 v5 (out ++ [(x, y, z)]).length (flat (out ++ [(x, y, z)])) := by
       rw [flat_append, flat_three, List.length_append]; exact hown5
      have R3 : Hid (EAt w5 g1 (oo) ([])) := (E2.out.below ((Below.refl _ _).alloc (Nat.le_refl _) _)).kept hgrow5 (fun e => by have := HW.out g1 e.symm; omega)
      have R4 := pre_len HE'.out HT.out
      clear hown5 hgrow5 O2 M2 E2
      go_wp2
      go_roundw
      case rel => exact ⟨k + 1, oo, 0, c', [], out ++ [(x, y, z)], by omega, by go_num, rfl, by omega, by omega, by omega, by omega, rfl, R4, HE', R3, R1, R2⟩
      case measure => simp [intOf]; omega
    | cons a u1 =>
     obtain ⟨p1, p2, p3⟩ := a
     obtain ⟨q1, rfl⟩ : ∃ q1, q = q1 + 1 := ⟨u1.length, by have := HUL.out; simpa using this.symm⟩
     have HUL1 : Hid (u1.length = q1) := by have := HUL.out; unfold Hid; simpa using this
     obtain ⟨b0, b1, b2⟩ := HE.out 0 (p1, p2, p3) rfl
     simp only [Nat.zero_mul, Nat.add_zero] at b0 b1 b2
     have hq0 : decide ((0 : Int) < (q1 : Int) + 1) = true := decide_eq_true (by omega)
     have hfz1 : wr.frozen? ⟨g1, oo, none⟩ = false := frozen_mut hmut hg1 HF.out oo
     by_cases t1 : p1 ≤ y
     ·have t1' : decide (p1 ≤ y) = true := decide_eq_true t1
      go_wp2
      go_quiet (fail)
      generalize hwq : (World.drewN _ _) = wq at *
      have O2 : wq.ownsRow w.heap.size 95 3 u5 out.length (flat out) := by rw [← hwq]; exact hown
      have M2 : Mut w wq g1 o1 (o1 + m * 3) := by rw [← hwq]; exact hmut.drewN _
      have E2 : Hid (EAt wq g1 oo ((p1, p2, p3) :: u1)) := by unfold Hid; rw [← hwq]; exact HE.out
      have k0 : wq.cell? ⟨w3.heap.size, 0, none⟩ = some (.int .i64 x) := by rw [← hwq]; exact f0
      have k1 : wq.cell? ⟨w3.heap.size, 1, none⟩ = some (.int .i64 y) := by rw [← hwq]; exact f1
      have k2 : wq.cell? ⟨w3.heap.size, 2, none⟩ = some (.int .i64 z) := by rw [← hwq]; exact f2
      have hb8 : w3.heap.size < wq.heap.size := by rw [← hwq]; exact hb7
      have hs2 := M2.size
      have d0 : wq.cell? ⟨g1, oo, none⟩ = some (.int .i64 p1) := by rw [← hwq]; exact b0
      have d1 : wq.cell? ⟨g1, oo + 1, none⟩ = some (.int .i64 p2) := by rw [← hwq]; exact b1
      have d2 : wq.cell? ⟨g1, oo + 2, none⟩ = some (.int .i64 p3) := by rw [← hwq]; exact b2
      have d3 : wq.frozen? ⟨g1, oo, none⟩ = false := by rw [← hwq]; exact hfz1
      clear b0 b1 b2 hfz1
      clear hwq hown hmut HE f0 f1 f2 hb7
      by_cases t2 : p1 < x
      ·obtain ⟨mm, hmm⟩ : ∃ mm : Int, (if x - 1 < p2 then x - 1 else p2) = mm := ⟨_, rfl⟩
       have hmm' : min p2 (x - 1) = mm := by rw [← hmm]; split <;> omega
       have HMM : Hid (min p2 (x - 1) = mm) := hmm'
       have M3 := M2.alloc hg1 (.cells #[.int .i64 p1, .int .i64 p2, .int .i64 p3] 95)
       have O3 := O2.alloc (.cells #[.int .i64 p1, .int .i64 p2, .int .i64 p3] 95)
       have E3 : Hid (EAt (wq.alloc (.cells #[.int .i64 p1, .int .i64 p2, .int .i64 p3] 95)) g1 oo ((p1, p2, p3) :: u1)) := E2.out.below ((Below.refl _ _).alloc (Nat.le_refl _) _)
       clear hmm' E2 M2
       go_wp2_with (at_builtin; refine wpList_append_own_at _ rfl _ _ 96 rfl w.heap.size 95 i0 (.agg #[.int .i64 0, .int .i64 0, .int .i64 0]) 3 24 Tryz.underlying96 hi hz0 hz1 hz2 rfl (by decide) _ _ _ rfl (O3.alloc _) ⟨wq.heap.size + 1, 0, none⟩ 1 1 [.int .i64 p1, .int .i64 mm, .int .i64 p3] rfl rfl ?c1c ?c2c ?c3c ?c4c ?c5c ?_)
       try (case c1c => have := one_new (wq.alloc (.cells #[.int .i64 p1, .int .i64 p2, .int .i64 p3] 95)) (.int .i64 p1) (.int .i64 mm) (.int .i64 p3) 95; simpa using this)
       case c2c => first | (intro u hu; simp at hu; rcases hu with rfl | rfl | rfl <;> rfl) | (refine ⟨?_, ?_, ?_⟩ <;> rfl)
       case c3c => unfold maxLen; omega
       case c4c => omega
       case c5c => first | omega | (simp; omega)
       ·intro v4 w4 hown4 hgrow4 _ hat4
        have N1 : w4.ownsRow w.heap.size 95 3 v4 (out ++ [(p1, mm, p3)]).length (flat (out ++ [(p1, mm, p3)])) := by
         rw [flat_append, flat_three, List.length_append]; exact hown4
        have N2 := (M3.alloc hg1 (.cells #[.int .i64 p1, .int .i64 mm, .int .i64 p3] 95)).grown hg1 hgrow4 HW.out
        have hg1n : some g1 ≠ u5.ownBlock := fun e => by have := HW.out g1 e.symm; omega
        have N3 : Hid (EAt w4 g1 oo ((p1, p2, p3) :: u1)) := (E3.out.below ((Below.refl _ _).alloc (Nat.le_refl _) _)).kept hgrow4 hg1n
        have hb7n : some w3.heap.size ≠ u5.ownBlock := fun e => HB7.out _ e.symm rfl
        have hlo : ∀ j, u5.ownBlock = some j → j < wq.heap.size := fun j e => (O2.lt _ e).2
        have hb8n : some wq.heap.size ≠ u5.ownBlock := fun e => by have := hlo _ e.symm; omega
        have n0 : w4.cell? ⟨w3.heap.size, 0, none⟩ = some (.int .i64 x) := hgrow4.cell (past1 (past1 k0 _) _) hb7n
        have n1 : w4.cell? ⟨w3.heap.size, 1, none⟩ = some (.int .i64 y) := hgrow4.cell (past1 (past1 k1 _) _) hb7n
        have n2 : w4.cell? ⟨w3.heap.size, 2, none⟩ = some (.int .i64 z) := hgrow4.cell (past1 (past1 k2 _) _) hb7n
        have m1 : w4.cell? ⟨wq.heap.size, 1, none⟩ = some (.int .i64 p2) := hgrow4.cell (by simp) hb8n
        have hg0 : w4.cell? ⟨g1, oo, none⟩ = some (.int .i64 p1) := by have := (N3.out 0 (p1, p2, p3) rfl).1; simpa using this
        have hfz4 : w4.frozen? ⟨g1, oo, none⟩ = false := frozen_mut N2 hg1 HF.out oo
        have hb9 : w3.heap.size < w4.heap.size := by have := hgrow4.size; simp at this; omega
        have HB9 : Hid (∀ j, v4.ownBlock = some j → j ≠ w3.heap.size) := fun j e => by
         rcases hat4 with h | h
         ·exact HB7.out j (h ▸ e)
         ·rw [h] at e; simp at e; omega
        have HW4 : Hid (∀ j, v4.ownBlock = some j → w.heap.size ≤ j) := fun j e => (N1.lt _ e).1
        have hs4 := N2.size
        clear hown4 hgrow4 hat4 M3 O3 E3 O2 hg1n hb7n hlo hb8n k0 k1 k2 d0 d1 d2 d3 HB7 hmm
        by_cases t3 : y < p2
        ·have HEE : Hid (((out ++ [(p1, mm, p3)]) ++ [(x, y, z)]) ++ over ((y + 1, p2, p3) :: u1) (v.drop (k + 1)) = T) := by
          have := HJ.out; unfold Hid
          rw [step_cut t1 t3, if_pos t2] at this
          simp only [HMM.out] at this
          simpa using this
         have N1' := ownsRow_setCell_below N1 (a := ⟨g1, oo, none⟩) hg1 (.int .i64 (y + 1))
         have N2' := N2.setCell (i := oo) hoo (by omega) (.int .i64 (y + 1))
         have N3' : Hid (EAt (w4.setCell ⟨g1, oo, none⟩ (.int .i64 (y + 1))) g1 oo ((y + 1, p2, p3) :: u1)) := EAt.setLo N3.out
         have R4' := pre_len (show (out ++ [(p1, mm, p3)]) ++ ([(x, y, z)] ++ over ((y + 1, p2, p3) :: u1) (v.drop (k + 1))) = T by have := HEE.out; simpa using this) HT.out
         have HUL2 : Hid (((y + 1, p2, p3) :: u1 : List E).length = q1 + 1) := by unfold Hid; rw [List.length_cons, HUL1.out]
         have hgs : g1 ≠ w3.heap.size := by omega
         have n0' : (w4.setCell ⟨g1, oo, none⟩ (.int .i64 (y + 1))).cell? ⟨w3.heap.size, 0, none⟩ = some (.int .i64 x) := (World.cell?_of_block (a := ⟨w3.heap.size, 0, none⟩) (Below.heap_setCell _ _ _ _ (by simp only; omega))).trans n0
         have n1' : (w4.setCell ⟨g1, oo, none⟩ (.int .i64 (y + 1))).cell? ⟨w3.heap.size, 1, none⟩ = some (.int .i64 y) := (World.cell?_of_block (a := ⟨w3.heap.size, 1, none⟩) (Below.heap_setCell _ _ _ _ (by simp only; omega))).trans n1
         have n2' : (w4.setCell ⟨g1, oo, none⟩ (.int .i64 (y + 1))).cell? ⟨w3.heap.size, 2, none⟩ = some (.int .i64 z) := (World.cell?_of_block (a := ⟨w3.heap.size, 2, none⟩) (Below.heap_setCell _ _ _ _ (by simp only; omega))).trans n2
         have HW := HW4
         clear HJ N1 N2 N3 HW4
         generalize out ++ [(p1, mm, p3)] = out at *
         go_wp2_with (at_builtin; refine wpList_append_own_at _ rfl _ _ 96 rfl w.heap.size 95 i0 (.agg #[.int .i64 0, .int .i64 0, .int .i64 0]) 3 24 Tryz.underlying96 hi hz0 hz1 hz2 rfl (by decide) _ _ _ rfl (N1'.alloc _) ⟨w4.heap.size, 0, none⟩ 1 1 [.int .i64 x, .int .i64 y, .int .i64 z] rfl rfl ?c1d ?c2d ?c3d ?c4d ?c5d ?_)
         try (case c1d => have := one_new (w4.setCell ⟨g1, oo, none⟩ (.int .i64 (y + 1))) (.int .i64 x) (.int .i64 y) (.int .i64 z) 95; simpa using this)
         case c2d => first | (intro u hu; simp at hu; rcases hu with rfl | rfl | rfl <;> rfl) | (refine ⟨?_, ?_, ?_⟩ <;> rfl)
         case c3d => unfold maxLen; omega
         case c4d => omega
         case c5d => first | omega | (simp; omega)
         ·intro v5 w5 hown5 hgrow5 _ _
          have R2 := (N2'.alloc hg1 (.cells #[.int .i64 x, .int .i64 y, .int .i64 z] 95)).grown hg1 hgrow5 HW.out
          have R1 : w5.ownsRow w.heap.size 95 3 v5 (out ++ [(x, y, z)]).length (flat (out ++ [(x, y, z)])) := by
           rw [flat_append, flat_three, List.length_append]; exact hown5
          have R3 : Hid (EAt w5 g1 (oo) ((y + 1, p2, p3) :: u1)) := (N3'.out.below ((Below.refl _ _).alloc (Nat.le_refl _) _)).kept hgrow5 (fun e => by have := HW.out g1 e.symm; omega)
          have R4 := pre_len HEE.out HT.out
          clear hown5 hgrow5 N1' N2' N3'
          go_wp2
          go_roundw
          case rel => exact ⟨k + 1, oo, (q1 + 1), c', (y + 1, p2, p3) :: u1, out ++ [(x, y, z)], by omega, by go_num, rfl, by omega, by omega, by omega, by omega, HUL2.out, R4, HEE, R3, R1, R2⟩
          case measure => simp [intOf]; omega
        ·have HEE : Hid ((out ++ [(p1, mm, p3)]) ++ ((step (x, y, z) u1).1 ++ (x, y, z) :: over (step (x, y, z) u1).2 (v.drop (k + 1))) = T) := by
          have := HJ.out; unfold Hid
          rw [step_on t1 t3, if_pos t2] at this
          simp only [HMM.out] at this
          simpa using this
         obtain ⟨o', HA', ho1, ho2, N3'⟩ := next_at N3.out HUL1.out hqc hoo hoq
         have R4 := pre_len HEE.out HT.out
         clear HJ N3 HW4
         go_wp2
         go_roundw
         case rel => exact ⟨o', q1, c' - 1, u1, out ++ [(p1, mm, p3)], by rw [HA'.out], by omega, by omega, ho1, ho2, HUL1, R4, HEE, HB9, hb9, n0, n1, n2, N3', N1, N2⟩
         case measure => simp [lenOf]
      ·have HW4 := HW
       by_cases t3 : y < p2
       ·have HEE : Hid ((out ++ [(x, y, z)]) ++ over ((y + 1, p2, p3) :: u1) (v.drop (k + 1)) = T) := by
         have := HJ.out; unfold Hid
         rw [step_cut t1 t3, if_neg t2] at this
         simpa using this
        have N1' := (ownsRow_setCell_below O2 (a := ⟨g1, oo, none⟩) hg1 (.int .i64 (y + 1))).alloc (.cells #[.int .i64 p1, .int .i64 p2, .int .i64 p3] 95)
        have N2' := (M2.setCell (i := oo) hoo (by omega) (.int .i64 (y + 1))).alloc hg1 (.cells #[.int .i64 p1, .int .i64 p2, .int .i64 p3] 95)
        have N3' : Hid (EAt ((wq.setCell ⟨g1, oo, none⟩ (.int .i64 (y + 1))).alloc (.cells #[.int .i64 p1, .int .i64 p2, .int .i64 p3] 95)) g1 oo ((y + 1, p2, p3) :: u1)) := (EAt.setLo E2.out).below ((Below.refl _ _).alloc (Nat.le_refl _) _)
        have HUL2 : Hid (((y + 1, p2, p3) :: u1 : List E).length = q1 + 1) := by unfold Hid; rw [List.length_cons, HUL1.out]
        have hgs : g1 ≠ w3.heap.size := by omega
        have hgq : g1 < wq.heap.size := by omega
        have d0' := fun o => past1 d0 o
        have d3' := fun o => pastF d3 hgq o
        have n0' : (wq.setCell ⟨g1, oo, none⟩ (.int .i64 (y + 1))).cell? ⟨w3.heap.size, 0, none⟩ = some (.int .i64 x) := (World.cell?_of_block (a := ⟨w3.heap.size, 0, none⟩) (Below.heap_setCell _ _ _ _ (by simp only; omega))).trans k0
        have n1' : (wq.setCell ⟨g1, oo, none⟩ (.int .i64 (y + 1))).cell? ⟨w3.heap.size, 1, none⟩ = some (.int .i64 y) := (World.cell?_of_block (a := ⟨w3.heap.size, 1, none⟩) (Below.heap_setCell _ _ _ _ (by simp only; omega))).trans k1
        have n2' : (wq.setCell ⟨g1, oo, none⟩ (.int .i64 (y + 1))).cell? ⟨w3.heap.size, 2, none⟩ = some (.int .i64 z) := (World.cell?_of_block (a := ⟨w3.heap.size, 2, none⟩) (Below.heap_setCell _ _ _ _ (by simp only; omega))).trans k2
        have n0'' := fun o => past1 n0' o
        have n1'' := fun o => past1 n1' o
        have n2'' := fun o => past1 n2' o
        clear HJ O2 M2 E2
        go_wp2_with (at_builtin; refine wpList_append_own_at _ rfl _ _ 96 rfl w.heap.size 95 i0 (.agg #[.int .i64 0, .int .i64 0, .int .i64 0]) 3 24 Tryz.underlying96 hi hz0 hz1 hz2 rfl (by decide) _ _ _ rfl (N1'.alloc _) ⟨wq.heap.size + 1, 0, none⟩ 1 1 [.int .i64 x, .int .i64 y, .int .i64 z] rfl rfl ?c1e ?c2e ?c3e ?c4e ?c5e ?_)
        try (case c1e => have := one_new ((wq.setCell ⟨g1, oo, none⟩ (.int .i64 (y + 1))).alloc (.cells #[.int .i64 p1, .int .i64 p2, .int .i64 p3] 95)) (.int .i64 x) (.int .i64 y) (.int .i64 z) 95; simpa using this)
        case c2e => first | (intro u hu; simp at hu; rcases hu with rfl | rfl | rfl <;> rfl) | (refine ⟨?_, ?_, ?_⟩ <;> rfl)
        case c3e => unfold maxLen; omega
        case c4e => omega
        case c5e => first | omega | (simp; omega)
        ·intro v5 w5 hown5 hgrow5 _ _
         have R2 := (N2'.alloc hg1 (.cells #[.int .i64 x, .int .i64 y, .int .i64 z] 95)).grown hg1 hgrow5 HW.out
         have R1 : w5.ownsRow w.heap.size 95 3 v5 (out ++ [(x, y, z)]).length (flat (out ++ [(x, y, z)])) := by
          rw [flat_append, flat_three, List.length_append]; exact hown5
         have R3 : Hid (EAt w5 g1 (oo) ((y + 1, p2, p3) :: u1)) := (N3'.out.below ((Below.refl _ _).alloc (Nat.le_refl _) _)).kept hgrow5 (fun e => by have := HW.out g1 e.symm; omega)
         have R4 := pre_len HEE.out HT.out
         clear hown5 hgrow5 N1' N2' N3'
         go_wp2
         go_roundw
         case rel => exact ⟨k + 1, oo, (q1 + 1), c', (y + 1, p2, p3) :: u1, out ++ [(x, y, z)], by omega, by go_num, rfl, by omega, by omega, by omega, by omega, HUL2.out, R4, HEE, R3, R1, R2⟩
         case measure => simp [intOf]; omega
       ·have HEE : Hid (out ++ ((step (x, y, z) u1).1 ++ (x, y, z) :: over (step (x, y, z) u1).2 (v.drop (k + 1))) = T) := by
         have := HJ.out; unfold Hid
         rw [step_on t1 t3, if_neg t2] at this
         simpa using this
        have N1 := O2.alloc (.cells #[.int .i64 p1, .int .i64 p2, .int .i64 p3] 95)
        have N2 := M2.alloc hg1 (.cells #[.int .i64 p1, .int .i64 p2, .int .i64 p3] 95)
        obtain ⟨o', HA', ho1, ho2, N3'⟩ := next_at (E2.out.below ((Below.refl _ _).alloc (Nat.le_refl _) (.cells #[.int .i64 p1, .int .i64 p2, .int .i64 p3] 95))) HUL1.out hqc hoo hoq
        clear HJ O2 M2 E2
        go_wp2
        go_roundw
        case rel => exact ⟨o', q1, c' - 1, u1, out, by rw [HA'.out], by omega, by omega, ho1, ho2, HUL1, hol, HEE, HB7, by simp; omega, past1 k0 _, past1 k1 _, past1 k2 _, N3', N1, N2⟩
        case measure => simp [lenOf]
     ·have t1' : decide (p1 ≤ y) = false := decide_eq_false t1
      have HE' : Hid ((out ++ [(x, y, z)]) ++ over ((p1, p2, p3) :: u1) (v.drop (k + 1)) = T) := by
       have := HJ.out; unfold Hid
       rw [step_past t1] at this
       simpa using this
      clear HJ
      go_wp2
      go_quiet (fail)
      generalize hwq : (World.drewN _ _) = wq at *
      have O2 : wq.ownsRow w.heap.size 95 3 u5 out.length (flat out) := by rw [← hwq]; exact hown
      have M2 : Mut w wq g1 o1 (o1 + m * 3) := by rw [← hwq]; exact hmut.drewN _
      have E2 : Hid (EAt wq g1 oo ((p1, p2, p3) :: u1)) := by unfold Hid; rw [← hwq]; exact HE.out
      have k0 : wq.cell? ⟨w3.heap.size, 0, none⟩ = some (.int .i64 x) := by rw [← hwq]; exact f0
      have k1 : wq.cell? ⟨w3.heap.size, 1, none⟩ = some (.int .i64 y) := by rw [← hwq]; exact f1
      have k2 : wq.cell? ⟨w3.heap.size, 2, none⟩ = some (.int .i64 z) := by rw [← hwq]; exact f2
      have hb8 : w3.heap.size < wq.heap.size := by rw [← hwq]; exact hb7
      have hs2 := M2.size
      clear b0 b1 b2 hfz1
      clear hwq hown hmut HE f0 f1 f2 hb7
      go_wp2_with (at_builtin; refine wpList_append_own_at _ rfl _ _ 96 rfl w.heap.size 95 i0 (.agg #[.int .i64 0, .int .i64 0, .int .i64 0]) 3 24 Tryz.underlying96 hi hz0 hz1 hz2 rfl (by decide) _ _ _ rfl (O2.alloc _) ⟨wq.heap.size, 0, none⟩ 1 1 [.int .i64 x, .int .i64 y, .int .i64 z] rfl rfl ?c1f ?c2f ?c3f ?c4f ?c5f ?_)
      try (case c1f => have := one_new wq (.int .i64 x) (.int .i64 y) (.int .i64 z) 95; simpa using this)
      case c2f => first | (intro u hu; simp at hu; rcases hu with rfl | rfl | rfl <;> rfl) | (refine ⟨?_, ?_, ?_⟩ <;> rfl)
      case c3f => unfold maxLen; omega
      case c4f => omega
      case c5f => first | omega | (simp; omega)
      ·intro v5 w5 hown5 hgrow5 _ _
       have R2 := (M2.alloc hg1 (.cells #[.int .i64 x, .int .i64 y, .int .i64 z] 95)).grown hg1 hgrow5 HW.out
       have R1 : w5.ownsRow w.heap.size 95 3 v5 (out ++ [(x, y, z)]).length (flat (out ++ [(x, y, z)])) := by
        rw [flat_append, flat_three, List.length_append]; exact hown5
       have R3 : Hid (EAt w5 g1 (oo) ((p1, p2, p3) :: u1)) := (E2.out.below ((Below.refl _ _).alloc (Nat.le_refl _) _)).kept hgrow5 (fun e => by have := HW.out g1 e.symm; omega)
       have R4 := pre_len HE'.out HT.out
       clear hown5 hgrow5 O2 M2 E2
       go_wp2
       go_roundw
       case rel => exact ⟨k + 1, oo, (q1 + 1), c', (p1, p2, p3) :: u1, out ++ [(x, y, z)], by omega, by go_num, rfl, by omega, by omega, by omega, by omega, HUL.out, R4, HE', R3, R1, R2⟩
       case measure => simp [intOf]; omega
  ·have HEND : Hid (out ++ u' = T) := by
    have := HI.out; rw [List.drop_of_length_le (by have := HVL.out; omega)] at this; exact this
   have hlen : out.length + q ≤ 1200000 := by have := HT.out; rw [← HEND.out, List.length_append, HUL.out] at this; exact this
   have HW : Hid (∀ j, u5.ownBlock = some j → w.heap.size ≤ j) := fun j e => (hown.lt _ e).1
   have hs1 := hmut.size
   clear HI
   go_wp2_with (at_builtin; refine wpList_append_own_at _ rfl _ _ 96 rfl w.heap.size 95 i0 (.agg #[.int .i64 0, .int .i64 0, .int .i64 0]) 3 24 Tryz.underlying96 hi hz0 hz1 hz2 rfl (by decide) _ _ _ rfl hown ⟨g1, oo, none⟩ q c' (flat u') rfl (by rw [flat_length, HUL.out]) HE.out.news (flat_one u') (by unfold maxLen; omega) (by omega) hs1 ?_)
   intro v5 w5 hown5 hgrow5 _ _
   have R2 := hmut.grown hg1 hgrow5 HW.out
   have R1 : Hid (Own w5 w.heap.size v5 T) := by
    unfold Hid Own; rw [← HEND.out, flat_append, List.length_append, HUL.out]; exact hown5
   clear hown5 hgrow5
   go_wp2
   go_ret
   exact ⟨_, rfl, R1.out, R2⟩
end Go.Proofs.YtinlolmjafjhnaaGreatDoor.tri
end

section
/- What trie.settled answers: a list that rises, in which each code point has the value of the last entry with it. -/
set_option linter.unusedVariables false
set_option linter.unusedSimpArgs false
namespace Go.Proofs.YtinlolmjafjhnaaGreatDoor.tri
open Go.RowKit
open Go.Proofs.YtinlolmjafjhnaaGreatDoor.rng (ret_int ret_bool below_drewN info_parts own_below')

theorem over_length : ∀ (v u : List E), v.length ≤ (over u v).length
 | [], u => by simp
 | t :: v, u => by
  rw [over, List.length_append, List.length_cons, List.length_cons]
  have := over_length v (step t u).2
  omega

/-- Two worlds with one memory. -/
structure Alike (w W : World) : Prop where
 heap : W.heap = w.heap
 os : W.os = w.os
 tape : W.tape = w.tape
 output : W.output = w.output
theorem Alike.mut {w W w' : World} {g lo hi : Nat} (a : Alike w W) (m : Mut W w' g lo hi) : Mut w w' g lo hi := by
 obtain ⟨h1, h2, h3, h4⟩ := a
 have hc : ∀ p, W.cell? p = w.cell? p := fun p => by simp only [World.cell?, h1]
 have hf : ∀ p, W.frozen? p = w.frozen? p := fun p => by simp only [World.frozen?, h1]
 exact ⟨m.os.trans h2, m.tape.trans h3, m.output.trans h4, by rw [← h1]; exact m.size, fun k hk hg => by rw [← h1] at hk ⊢; exact m.block k hk hg, fun i hi => (m.cell i hi).trans (hc _), fun i => (m.frozen i).trans (hf _)⟩
theorem Alike.eat {w W : World} {b off : Nat} {l : List E} (a : Alike w W) (h : EAt w b off l) : EAt W b off l := fun i p hp => by
 have hc : ∀ p, W.cell? p = w.cell? p := fun p => by simp only [World.cell?, a.heap]
 rw [hc, hc, hc]; exact h i p hp
theorem Alike.frozen {w W : World} {b : Nat} (a : Alike w W) (h : ∀ i, w.frozen? ⟨b, i, none⟩ = false) : ∀ i, W.frozen? ⟨b, i, none⟩ = false := fun i => by
 have hf : ∀ p, W.frozen? p = w.frozen? p := fun p => by simp only [World.frozen?, a.heap]
 rw [hf]; exact h i

/-- The value v is a slice of the entries s, in a block of the call's own or within cells off to off + n * 3 of block g. -/
structure Res (w w' : World) (g off n : Nat) (nv : Int) (l : List E) (a : Addr) (k c : Nat) (s : List E) : Prop where
 spot : a.spot = none
 len : s.length = k
 cap : k ≤ c ∧ c ≤ 9223372036854775807
 row : EAt w' a.block a.off s
 lt : a.block < w'.heap.size
 melts : ∀ i, w'.frozen? ⟨a.block, i, none⟩ = false
 place : w.heap.size ≤ a.block ∨ (a.block = g ∧ off ≤ a.off ∧ a.off + k * 3 ≤ off + n * 3)
 some : 0 < n → 0 < k
 ris : Ris nv 0 s
 tells : ∀ x, at_ s x = last l x
 chg : Mut w w' g off (off + n * 3)

set_option maxRecDepth 10000 in
set_option maxHeartbeats 4000000 in
theorem settled_any (nv : Int) : ∀ (n g off cap : Nat) (l : List E) (w : World), l.length = n → n ≤ 1000000 → n ≤ cap → cap ≤ 9223372036854775807 → EAt w g off l → g < w.heap.size → (∀ i, w.frozen? ⟨g, i, none⟩ = false) → (∀ e ∈ l, good nv e = true ∧ 0 ≤ e.1 ∧ e.2.1 ≤ 1114111) →
  Calls Tryz.prog 81 #[.slice (some ⟨g, off, none⟩) n cap] w fun e w' => ∃ b o k c s, e = .returned (.slice (some ⟨b, o, none⟩) k c) ∧ Res w w' g off n nv l ⟨b, o, none⟩ k c s := by
 intro n
 induction n using Nat.strongRecOn with
 | _ n ih =>
 intro g off cap l w hl hn hnc hcm hE hg hfz hgd
 by_cases h2 : n < 2
 ·have HR : Hid (Res w w g off n nv l ⟨g, off, none⟩ n cap l) := by
   have hr : Ris nv 0 l ∧ ∀ x, at_ l x = last l x := by
    match l, hl, hgd with
    | [], _, _ => exact ⟨trivial, fun x => rfl⟩
    | [e], _, hgd =>
     obtain ⟨q1, q2, q3⟩ := hgd e (by simp)
     have := ris_one q1 q2 q3
     exact ⟨this, fun x => (ris_last x this).symm⟩
    | a :: b :: l, hl, _ => simp at hl; omega
   exact ⟨rfl, hl, ⟨hnc, hcm⟩, hE, hg, hfz, .inr ⟨rfl, Nat.le_refl _, Nat.le_refl _⟩, id, hr.1, hr.2, Mut.refl _ _ _ _⟩
  have h2' : decide ((n : Int) < 2) = true := decide_eq_true (by omega)
  clear ih hl hE hfz hgd
  go_enter Tryz.func81, Tryz.ntmps81
  go_wp2
  go_ret
  exact ⟨_, _, _, _, _, rfl, HR.out⟩
 obtain ⟨H, hH⟩ : ∃ H, n / 2 = H := ⟨_, rfl⟩
 have hdiv : Int.tdiv (n : Int) 2 = (H : Int) := by
  rw [Int.tdiv_eq_ediv_of_nonneg (by omega), ← hH]; omega
 have hH1 : 1 ≤ H := by omega
 have hH2 : H < n := by omega
 have C1 : Hid (∀ W, Alike w W → Calls Tryz.prog 81 #[.slice (some ⟨g, off, none⟩) H cap] W fun e w' => ∃ b o k c s, e = .returned (.slice (some ⟨b, o, none⟩) k c) ∧ Res w w' g off H nv (l.take H) ⟨b, o, none⟩ k c s) := fun W a => by
  refine (ih H hH2 g off cap (l.take H) W (by rw [List.length_take]; omega) (by omega) (by omega) hcm (a.eat (hE.take H)) (by rw [a.heap]; exact hg) (a.frozen hfz) (fun e he => hgd e (List.mem_of_mem_take he))).mono ?_
  rintro e w' ⟨b, o, k, c, s, rfl, r⟩
  exact ⟨b, o, k, c, s, rfl, ⟨r.spot, r.len, r.cap, r.row, r.lt, r.melts, by rw [← a.heap]; exact r.place, r.some, r.ris, r.tells, a.mut r.chg⟩⟩
 have C2 : Hid (∀ w1 W, Mut w w1 g off (off + H * 3) → Alike w1 W → Calls Tryz.prog 81 #[.slice (some ⟨g, off + H * 3, none⟩) (n - H) (cap - H)] W fun e w' => ∃ b o k c s, e = .returned (.slice (some ⟨b, o, none⟩) k c) ∧ Res w1 w' g (off + H * 3) (n - H) nv (l.drop H) ⟨b, o, none⟩ k c s) := fun w1 W m a => by
  have e1 : EAt w1 g (off + H * 3) (l.drop H) := (hE.drop H).mut m (by omega)
  have hg1 : g < w1.heap.size := by have := m.size; omega
  refine (ih (n - H) (by omega) g (off + H * 3) (cap - H) (l.drop H) W (by rw [List.length_drop]; omega) (by omega) (by omega) (by omega) (a.eat e1) (by rw [a.heap]; exact hg1) (a.frozen (frozen_mut m hg hfz)) (fun e he => hgd e (List.mem_of_mem_drop he))).mono ?_
  rintro e w' ⟨b, o, k, c, s, rfl, r⟩
  exact ⟨b, o, k, c, s, rfl, ⟨r.spot, r.len, r.cap, r.row, r.lt, r.melts, by rw [← a.heap]; exact r.place, r.some, r.ris, r.tells, a.mut r.chg⟩⟩
 have C3 : Hid (∀ w1 w2 W b1 o1 k1 c1 s1 b2 o2 k2 c2 s2, Res w w1 g off H nv (l.take H) ⟨b1, o1, none⟩ k1 c1 s1 → Res w1 w2 g (off + H * 3) (n - H) nv (l.drop H) ⟨b2, o2, none⟩ k2 c2 s2 → Alike w2 W →
   Calls Tryz.prog 116 #[.slice (some ⟨b1, o1, none⟩) k1 c1, .slice (some ⟨b2, o2, none⟩) k2 c2] W fun e w' => ∃ b o k c s, e = .returned (.slice (some ⟨b, o, none⟩) k c) ∧ Res w w' g off n nv l ⟨b, o, none⟩ k c s) := fun w1 w2 W b1 o1 k1 c1 s1 b2 o2 k2 c2 s2 r1 r2 a => by
  have p1 := r1.place
  have p2 := r2.place
  have l1 := r1.lt
  simp only at p1 p2 l1
  have z1 := r1.chg.size
  have z2 := r2.chg.size
  have e1 : EAt w2 b1 o1 s1 := r1.row.mut r2.chg (by rw [r1.len]; simp only; omega)
  obtain ⟨g1, g2⟩ := over_good s2 s1 0 r1.ris r2.ris
  have hT := ris_len g1
  refine (overlay_any b1 o1 k1 c1 b2 o2 k2 c2 s1 s2 W r1.len r2.len (by have := ris_len r1.ris; rw [r1.len] at this; omega) (by have := ris_len r2.ris; rw [r2.len] at this; omega) r1.cap.1 r1.cap.2 (by omega)
   (fun e he => by have := ris_mem r2.ris e he; omega) (a.eat e1) (a.eat r2.row) (by rw [a.heap]; omega) (a.frozen (frozen_mut r2.chg l1 r1.melts)) (by omega)).mono ?_
  rintro e w' ⟨v', rfl, ho, hm⟩
  have hpos : 0 < (over s1 s2).length := by
   have := over_length s2 s1; have := r2.some (by omega); have := r2.len; omega
  rcases ho.2 with ⟨_, h0⟩ | ⟨b, c, cur, hv, hb, hgg, hc, hcm2, _⟩
  ·omega
  ·subst hv
   obtain ⟨q1, q2, q3, q4⟩ := ho.at
   have hm' := a.mut hm
   rw [a.heap] at hb
   refine ⟨b, 0, _, c, over s1 s2, rfl, ⟨rfl, rfl, ⟨hc, by unfold maxLen at hcm2; omega⟩, q1, q3, q4, .inl (by simp only; omega), fun _ => hpos, g1, fun x => ?_, ?_⟩⟩
   ·rw [g2 x, r1.tells x, r2.tells x, ← last_append, List.take_append_drop]
   ·have m1 := (r1.chg.wide (Nat.le_refl _) (show off + H * 3 ≤ off + n * 3 by omega)).trans (r2.chg.wide (show off ≤ off + H * 3 by omega) (show off + H * 3 + (n - H) * 3 ≤ off + n * 3 by omega))
    rcases p1 with p1 | ⟨p1, p3, p4⟩
    ·exact m1.then hg (hm'.below (by omega) p1)
    ·rw [p1] at hm'
     exact m1.trans (hm'.wide p3 (by omega))
 clear ih hl hE hfz hgd
 have h2' : decide ((n : Int) < 2) = false := decide_eq_false (by omega)
 have hHc : ¬ cap = H := by omega
 have hHc' : ¬ cap - H = 0 := by omega
 go_enter Tryz.func81, Tryz.ntmps81
 go_wp2
 go_region_with (first
  | (go_at_call 116; refine (C3.out _ _ _ _ _ _ _ _ _ _ _ _ _ r1.out r2.out ?_).mono ?_; exact ⟨rfl, rfl, rfl, rfl⟩; rintro e w3 ⟨b3, o3, k3, c3, s3, rfl, q3⟩; have r3 : Hid (Res w w3 g off n nv l ⟨b3, o3, none⟩ k3 c3 s3) := q3; clear q3)
  | (go_at_call 81; refine (C2.out _ _ r1.out.chg ?_).mono ?_; exact ⟨rfl, rfl, rfl, rfl⟩; rintro e w2 ⟨b2, o2, k2, c2, s2, rfl, q2⟩; have r2 : Hid (Res w1 w2 g (off + H * 3) (n - H) nv (l.drop H) ⟨b2, o2, none⟩ k2 c2 s2) := q2; clear q2)
  | (go_at_call 81; refine (C1.out _ ?_).mono ?_; exact ⟨rfl, rfl, rfl, rfl⟩; rintro e w1 ⟨b1, o1, k1, c1, s1, rfl, q1⟩; have r1 : Hid (Res w w1 g off H nv (l.take H) ⟨b1, o1, none⟩ k1 c1 s1) := q1; clear q1))
 all_goals go_wp2
 all_goals go_ret
 all_goals exact ⟨_, _, _, _, _, rfl, r3.out⟩
end Go.Proofs.YtinlolmjafjhnaaGreatDoor.tri
end
