/- What edit.addText answers: bytes laid behind the text with which parts end, or a text begun. -/
import Derived.Test.YtfnndnlhdfjggaaEdtParts
set_option linter.unusedVariables false
set_option linter.unusedSimpArgs false
namespace Go.Proofs.Ytfnndnlhdfjggaa.edt
open Go.RowKit

def addT (ps : List Pt) (s : List Int) : List Pt :=
  if ps.getLast?.map Prod.snd = some (-1) then ps.dropLast ++ [((ps.getLast?.getD ([], 0)).1 ++ s, -1)] else ps ++ [(s, -1)]
theorem addT_nil (s : List Int) : addT [] s = [(s, -1)] := rfl
theorem addT_snoc (ps : List Pt) (t s : List Int) (a : Int) : addT (ps ++ [(t, a)]) s = if a = -1 then ps ++ [(t ++ s, -1)] else ps ++ [(t, a)] ++ [(s, -1)] := by
  unfold addT
  simp

theorem two_new (w : World) (x y : Value) : ∀ (j : Nat) (u : Value), [x, y][j]? = some u → (w.alloc (Obj.cells #[x, y] 37)).cell? ((⟨w.heap.size, 0, none⟩ : Addr).add j) = some u := by
  intro j u hj
  match j, hj with
  | 0, hj => simp at hj; subst hj; simp [Addr.add]
  | 1, hj => simp at hj; subst hj; simp [Addr.add]
  | k + 2, hj => simp at hj

set_option maxHeartbeats 1000000 in
theorem add_none (B : Nat) (va : Option Addr) (vc : Nat) (ao : Option Addr) (n cap : Nat) (said : List Int) (w : World) (hP : PsAt w B 37 (.slice va 0 vc) ([] : List Qt)) (hS : ∀ w', Below B w w' → BS w' ao n cap said) (hB : B ≤ w.heap.size)  (hn : n ≤ 1048576) :
    Calls Try.prog 23 #[(.slice va 0 vc), .slice ao n cap] w fun e w' => ∃ v' qs', e = .returned v' ∧ PsAt w' B 37 v' qs' ∧ qs'.map Prod.snd = addT (([] : List Qt).map Prod.snd) said ∧ Below B w w' ∧ Fr w w' := by
  obtain ⟨i0, hi, hz0, hz1, hz2⟩ := info_parts infoPart
  have HS : Hid (∀ w', Below B w w' → BS w' ao n cap said) := hS
  clear hS
  have HPA : Hid (PsAt w B 37 (.slice va 0 vc) []) := hP
  have HVB : Hid (∀ k, (Value.slice va 0 vc).ownBlock = some k → B ≤ k) := fun k e => (hP.row.lt k e).1
  have HM : Hid (([] : List Qt).length = 0) := rfl
  clear hP
  go_enter Try.func23, Try.ntmps23
  go_wp2_with (at_builtin; refine wpList_append_lies _ rfl _ _ 25 rfl B 37 i0 (.agg #[.slice none 0 0, .int .i64 0]) 2 32 Try.underlying25 hi hz0 hz1 hz2 rfl (by decide) _ 0 _ rfl (HPA.out.row.alloc _) ⟨w.heap.size, 0, none⟩ 1 1 [.slice none 0 0, .int .i64 (-1)] rfl rfl ?c1 ?c2 (by decide) ?c3 ?c4 ?c5 (w.heap.size + 1) ?c6 ?_)
  case c1 => exact two_new w _ _
  case c2 => intro u hu; simp at hu; rcases hu with rfl | rfl <;> rfl
  case c3 => unfold maxLen; omega
  case c4 => omega
  case c5 => simp; omega
  case c6 => simp
  intro g c1 w1 hown hgrow hat hlt
  have HP1 : Hid (PsAt w1 B 37 (.slice (some ⟨g, 0, none⟩) (0 + 1) c1) (([] : List Qt) ++ [(.slice none 0 0, [], -1)])) := (HPA.out.alloc _).snoc (by decide) _ _ _ hown hgrow (OB.nil _ _) (fun q hq g hg e => by cases e)
  have HB1 : Hid (Below B w w1) := Below.grown ((Below.refl B w).alloc hB _) hgrow (by simp; omega) HVB.out
  have HFr1 : Hid (Fr w w1) := ((Fr.refl w).alloc _).grown (HPA.out.alloc _).row (.inl rfl) hgrow
  clear hown hgrow hat hlt HPA HVB
  have hX : OB w1 B ((Value.slice none 0 0)) (([] : List Int)) := HP1.out.txt ((Value.slice none 0 0), ([] : List Int), -1) (by simp)
  have hr1 := HP1.out.row
  rw [show (([] : List Qt) ++ [(((Value.slice none 0 0) : Value), (([] : List Int) : List Int), (-1 : Int))]).length = 0 + 1 from by rw [List.length_append, HM.out]; rfl] at hr1
  have k0 : w1.cell? ⟨g, 0, none⟩ = some ((Value.slice none 0 0)) := (hr1.cellAt (0 * 2) (by omega)).trans (flatP_get (([] : List Qt) ++ [(((Value.slice none 0 0) : Value), (([] : List Int) : List Int), (-1 : Int))]) 0 ((Value.slice none 0 0), ([] : List Int), -1) (by rw [← HM.out]; simp)).1
  have hwB : B ≤ w1.heap.size := Nat.le_trans hB HB1.out.size
  have HX : Hid (OB w1 B ((Value.slice none 0 0)) (([] : List Int))) := hX
  have HX2 : Hid (∀ k, ((Value.slice none 0 0)).ownBlock = some k → B ≤ k) := fun k e => (World.ownsRow.lt hX k e).1
  have HR1 : Hid (w1.ownsRow B 37 2 (.slice (some ⟨g, 0, none⟩) (0 + 1) c1) (0 + 1) (flatP (([] : List Qt) ++ [(((Value.slice none 0 0) : Value), (([] : List Int) : List Int), (-1 : Int))]))) := hr1
  clear hX hr1
  go_wp2_with (at_builtin; refine wpList_app rfl _ _ rfl B _ (([] : List Int)) rfl HX.out ao n cap said rfl (HS.out _ HB1.out) ?d3 hwB ?_)
  case d3 => first | omega | (simp; omega)
  intro x' w4 hx' hgr hat
  have r4 := World.ownsRow.kept HR1.out hgr (own_apart HR1.out HX.out (by decide))
  have k4 : w4.cell? ⟨g, 0, none⟩ = some ((Value.slice none 0 0)) := (r4.cellAt (0 * 2) (by omega)).trans (flatP_get (([] : List Qt) ++ [(((Value.slice none 0 0) : Value), (([] : List Int) : List Int), (-1 : Int))]) 0 ((Value.slice none 0 0), ([] : List Int), -1) (by rw [← HM.out]; simp)).1
  have z4 : w4.frozen? ⟨g, 0, none⟩ = false := r4.frozenAt _
  have hgB : B ≤ g := (HR1.out.lt g rfl).1
  have HF : Hid (PsAt (w4.setCell ⟨g, 0, none⟩ x') B 37 (.slice (some ⟨g, 0, none⟩) (0 + 1) c1) (([] : List Qt) ++ [(x', (([] : List Int)) ++ said, -1)])) := HP1.out.retext (by decide) HM.out x' _ hx' hgr hat
  have HB4 : Hid (Below B w (w4.setCell ⟨g, 0, none⟩ x')) := (Below.grown HB1.out hgr hwB HX2.out).setCell hgB _
  obtain ⟨xa, L, xc, rfl⟩ : ∃ xa L xc, x' = Value.slice xa L xc := by obtain ⟨a, c, e⟩ := own_slice hx'; exact ⟨a, _, c, e⟩
  have HFr4 : Hid (Fr w (w4.setCell ⟨g, 0, none⟩ (Value.slice xa L xc))) := (HFr1.out.grown HX.out (.inr rfl) hgr).grown r4 (.inl rfl) (r4.stored (0) _).2
  clear hx' hgr hat r4 HFr1 HX HX2 HR1 k0 HP1 HB1
  go_wp2
  go_ret
  exact ⟨_, _, rfl, HF.out, by simp [addT], HB4.out, HFr4.out⟩

set_option maxHeartbeats 1000000 in
theorem add_new (B : Nat) (g0 m vc : Nat) (qs : List Qt) (x : Value) (t : List Int) (a : Int) (ha : ¬ a = -1) (hm : qs.length = m) (hm2 : m ≤ 1048576) (ao : Option Addr) (n cap : Nat) (said : List Int) (w : World) (hP : PsAt w B 37 (.slice (some ⟨g0, 0, none⟩) (m + 1) vc) (qs ++ [((x : Value), (t : List Int), (a : Int))])) (hS : ∀ w', Below B w w' → BS w' ao n cap said) (hB : B ≤ w.heap.size)  (hn : n ≤ 1048576) :
    Calls Try.prog 23 #[(.slice (some ⟨g0, 0, none⟩) (m + 1) vc), .slice ao n cap] w fun e w' => ∃ v' qs', e = .returned v' ∧ PsAt w' B 37 v' qs' ∧ qs'.map Prod.snd = addT ((qs ++ [((x : Value), (t : List Int), (a : Int))]).map Prod.snd) said ∧ Below B w w' ∧ Fr w w' := by
  obtain ⟨i0, hi, hz0, hz1, hz2⟩ := info_parts infoPart
  have HS : Hid (∀ w', Below B w w' → BS w' ao n cap said) := hS
  clear hS
  have HPA : Hid (PsAt w B 37 (.slice (some ⟨g0, 0, none⟩) (m + 1) vc) (qs ++ [(x, t, a)])) := hP
  have HVB : Hid (∀ k, (Value.slice (some ⟨g0, 0, none⟩) (m + 1) vc).ownBlock = some k → B ≤ k) := fun k e => (hP.row.lt k e).1
  have hl : (qs ++ [((x : Value), (t : List Int), (a : Int))]).length = m + 1 := by rw [List.length_append, hm]; rfl
  have HM : Hid ((qs ++ [((x : Value), (t : List Int), (a : Int))]).length = m + 1) := hl
  have hrow := hP.row
  rw [hl] at hrow
  have k1 : w.cell? ⟨g0, m * 2 + 1, none⟩ = some (.int .i64 a) := (hrow.cellAt (m * 2 + 1) (by omega)).trans (flatP_get (qs ++ [((x : Value), (t : List Int), (a : Int))]) m (x, t, a) (by rw [← hm]; simp)).2
  have HA : Hid (¬ a = -1) := ha
  have ha2 : (a == -1) = false := by simpa using ha
  have ha3 : (a != -1) = true := by simpa using ha
  have hm4 : ((m : Int) + 1 == 0) = false := by simp; omega
  have HQ : Hid (qs.length = m) := hm
  clear hP hrow hl hm
  go_enter Try.func23, Try.ntmps23
  go_wp2_with (at_builtin; refine wpList_append_lies _ rfl _ _ 25 rfl B 37 i0 (.agg #[.slice none 0 0, .int .i64 0]) 2 32 Try.underlying25 hi hz0 hz1 hz2 rfl (by decide) _ (m + 1) _ rfl (by have := HPA.out.row; rw [HM.out] at this; exact this.alloc _) ⟨w.heap.size, 0, none⟩ 1 1 [.slice none 0 0, .int .i64 (-1)] rfl rfl ?c1 ?c2 (by decide) ?c3 ?c4 ?c5 (w.heap.size + 1) ?c6 ?_)
  case c1 => exact two_new w _ _
  case c2 => intro u hu; simp at hu; rcases hu with rfl | rfl <;> rfl
  case c3 => unfold maxLen; omega
  case c4 => omega
  case c5 => simp; omega
  case c6 => simp
  intro g c1 w1 hown hgrow hat hlt
  have HP1 : Hid (PsAt w1 B 37 (.slice (some ⟨g, 0, none⟩) ((m + 1) + 1) c1) ((qs ++ [((x : Value), (t : List Int), (a : Int))]) ++ [(.slice none 0 0, [], -1)])) := (HPA.out.alloc _).snoc (by decide) _ _ _ (by rw [HM.out]; exact hown) hgrow (OB.nil _ _) (fun q hq g hg e => by cases e)
  have HB1 : Hid (Below B w w1) := Below.grown ((Below.refl B w).alloc hB _) hgrow (by simp; omega) HVB.out
  have HFr1 : Hid (Fr w w1) := ((Fr.refl w).alloc _).grown (HPA.out.alloc _).row (.inl rfl) hgrow
  clear hown hgrow hat hlt HPA HVB
  have hX : OB w1 B ((Value.slice none 0 0)) (([] : List Int)) := HP1.out.txt ((Value.slice none 0 0), ([] : List Int), -1) (by simp)
  have hr1 := HP1.out.row
  rw [show ((qs ++ [((x : Value), (t : List Int), (a : Int))]) ++ [(((Value.slice none 0 0) : Value), (([] : List Int) : List Int), (-1 : Int))]).length = (m + 1) + 1 from by rw [List.length_append, HM.out]; rfl] at hr1
  have k0 : w1.cell? ⟨g, (m + 1) * 2, none⟩ = some ((Value.slice none 0 0)) := (hr1.cellAt ((m + 1) * 2) (by omega)).trans (flatP_get ((qs ++ [((x : Value), (t : List Int), (a : Int))]) ++ [(((Value.slice none 0 0) : Value), (([] : List Int) : List Int), (-1 : Int))]) (m + 1) ((Value.slice none 0 0), ([] : List Int), -1) (by rw [← HM.out]; simp)).1
  have hwB : B ≤ w1.heap.size := Nat.le_trans hB HB1.out.size
  have HX : Hid (OB w1 B ((Value.slice none 0 0)) (([] : List Int))) := hX
  have HX2 : Hid (∀ k, ((Value.slice none 0 0)).ownBlock = some k → B ≤ k) := fun k e => (World.ownsRow.lt hX k e).1
  have HR1 : Hid (w1.ownsRow B 37 2 (.slice (some ⟨g, 0, none⟩) ((m + 1) + 1) c1) ((m + 1) + 1) (flatP ((qs ++ [((x : Value), (t : List Int), (a : Int))]) ++ [(((Value.slice none 0 0) : Value), (([] : List Int) : List Int), (-1 : Int))]))) := hr1
  clear hX hr1
  go_wp2_with (at_builtin; refine wpList_app rfl _ _ rfl B _ (([] : List Int)) rfl HX.out ao n cap said rfl (HS.out _ HB1.out) ?d3 hwB ?_)
  case d3 => first | omega | (simp; omega)
  intro x' w4 hx' hgr hat
  have r4 := World.ownsRow.kept HR1.out hgr (own_apart HR1.out HX.out (by decide))
  have k4 : w4.cell? ⟨g, (m + 1) * 2, none⟩ = some ((Value.slice none 0 0)) := (r4.cellAt ((m + 1) * 2) (by omega)).trans (flatP_get ((qs ++ [((x : Value), (t : List Int), (a : Int))]) ++ [(((Value.slice none 0 0) : Value), (([] : List Int) : List Int), (-1 : Int))]) (m + 1) ((Value.slice none 0 0), ([] : List Int), -1) (by rw [← HM.out]; simp)).1
  have z4 : w4.frozen? ⟨g, (m + 1) * 2, none⟩ = false := r4.frozenAt _
  have hgB : B ≤ g := (HR1.out.lt g rfl).1
  have HF : Hid (PsAt (w4.setCell ⟨g, (m + 1) * 2, none⟩ x') B 37 (.slice (some ⟨g, 0, none⟩) ((m + 1) + 1) c1) ((qs ++ [((x : Value), (t : List Int), (a : Int))]) ++ [(x', (([] : List Int)) ++ said, -1)])) := HP1.out.retext (by decide) HM.out x' _ hx' hgr hat
  have HB4 : Hid (Below B w (w4.setCell ⟨g, (m + 1) * 2, none⟩ x')) := (Below.grown HB1.out hgr hwB HX2.out).setCell hgB _
  obtain ⟨xa, L, xc, rfl⟩ : ∃ xa L xc, x' = Value.slice xa L xc := by obtain ⟨a, c, e⟩ := own_slice hx'; exact ⟨a, _, c, e⟩
  have HFr4 : Hid (Fr w (w4.setCell ⟨g, (m + 1) * 2, none⟩ (Value.slice xa L xc))) := (HFr1.out.grown HX.out (.inr rfl) hgr).grown r4 (.inl rfl) (r4.stored ((m + 1) * 2) _).2
  clear hx' hgr hat r4 HFr1 HX HX2 HR1 k0 HP1 HB1
  go_wp2
  go_ret
  exact ⟨_, _, rfl, HF.out, by simp only [List.map_append, List.map_cons, List.map_nil]; rw [addT_snoc, if_neg HA.out]; rfl, HB4.out, HFr4.out⟩

set_option maxHeartbeats 1000000 in
theorem add_last (B : Nat) (g m c1 : Nat) (qs : List Qt) (x : Value) (t : List Int) (hm : qs.length = m) (hm2 : m ≤ 1048576) (ht : t.length ≤ 1048576) (ao : Option Addr) (n cap : Nat) (said : List Int) (w : World) (hP : PsAt w B 37 (.slice (some ⟨g, 0, none⟩) (m + 1) c1) (qs ++ [((x : Value), (t : List Int), (-1 : Int))])) (hS : ∀ w', Below B w w' → BS w' ao n cap said) (hB : B ≤ w.heap.size)  (hn : n ≤ 1048576) :
    Calls Try.prog 23 #[(.slice (some ⟨g, 0, none⟩) (m + 1) c1), .slice ao n cap] w fun e w' => ∃ v' qs', e = .returned v' ∧ PsAt w' B 37 v' qs' ∧ qs'.map Prod.snd = addT ((qs ++ [((x : Value), (t : List Int), (-1 : Int))]).map Prod.snd) said ∧ Below B w w' ∧ Fr w w' := by
  obtain ⟨i0, hi, hz0, hz1, hz2⟩ := info_parts infoPart
  have HS : Hid (∀ w', Below B w w' → BS w' ao n cap said) := hS
  clear hS
  have HP1 : Hid (PsAt w B 37 (.slice (some ⟨g, 0, none⟩) (m + 1) c1) (qs ++ [(x, t, -1)])) := hP
  have HB1 : Hid (Below B w w) := Below.refl B w
  have HFr1 : Hid (Fr w w) := Fr.refl w
  have HM : Hid (qs.length = m) := hm
  have hl : (qs ++ [((x : Value), (t : List Int), (-1 : Int))]).length = m + 1 := by rw [List.length_append, hm]; rfl
  have hrow := hP.row
  rw [hl] at hrow
  have k1 : w.cell? ⟨g, m * 2 + 1, none⟩ = some (.int .i64 (-1)) := (hrow.cellAt (m * 2 + 1) (by omega)).trans (flatP_get (qs ++ [((x : Value), (t : List Int), (-1 : Int))]) m (x, t, -1) (by rw [← hm]; simp)).2
  have hm4 : ((m : Int) + 1 == 0) = false := by simp; omega
  clear hP hrow hl hm
  go_enter Try.func23, Try.ntmps23
  have hX : OB w B (x) (t) := HP1.out.txt (x, t, -1) (by simp)
  have hr1 := HP1.out.row
  rw [show (qs ++ [((x : Value), (t : List Int), (-1 : Int))]).length = m + 1 from by rw [List.length_append, HM.out]; rfl] at hr1
  have k0 : w.cell? ⟨g, m * 2, none⟩ = some (x) := (hr1.cellAt (m * 2) (by omega)).trans (flatP_get (qs ++ [((x : Value), (t : List Int), (-1 : Int))]) m (x, t, -1) (by rw [← HM.out]; simp)).1
  have hwB : B ≤ w.heap.size := Nat.le_trans hB HB1.out.size
  have HX : Hid (OB w B (x) (t)) := hX
  have HX2 : Hid (∀ k, (x).ownBlock = some k → B ≤ k) := fun k e => (World.ownsRow.lt hX k e).1
  have HR1 : Hid (w.ownsRow B 37 2 (.slice (some ⟨g, 0, none⟩) (m + 1) c1) (m + 1) (flatP (qs ++ [((x : Value), (t : List Int), (-1 : Int))]))) := hr1
  clear hX hr1
  go_wp2_with (at_builtin; refine wpList_app rfl _ _ rfl B _ (t) rfl HX.out ao n cap said rfl (HS.out _ HB1.out) ?d3 hwB ?_)
  case d3 => first | omega | (simp; omega)
  intro x' w4 hx' hgr hat
  have r4 := World.ownsRow.kept HR1.out hgr (own_apart HR1.out HX.out (by decide))
  have k4 : w4.cell? ⟨g, m * 2, none⟩ = some (x) := (r4.cellAt (m * 2) (by omega)).trans (flatP_get (qs ++ [((x : Value), (t : List Int), (-1 : Int))]) m (x, t, -1) (by rw [← HM.out]; simp)).1
  have z4 : w4.frozen? ⟨g, m * 2, none⟩ = false := r4.frozenAt _
  have hgB : B ≤ g := (HR1.out.lt g rfl).1
  have HF : Hid (PsAt (w4.setCell ⟨g, m * 2, none⟩ x') B 37 (.slice (some ⟨g, 0, none⟩) (m + 1) c1) (qs ++ [(x', (t) ++ said, -1)])) := HP1.out.retext (by decide) HM.out x' _ hx' hgr hat
  have HB4 : Hid (Below B w (w4.setCell ⟨g, m * 2, none⟩ x')) := (Below.grown HB1.out hgr hwB HX2.out).setCell hgB _
  obtain ⟨xa, L, xc, rfl⟩ : ∃ xa L xc, x' = Value.slice xa L xc := by obtain ⟨a, c, e⟩ := own_slice hx'; exact ⟨a, _, c, e⟩
  have HFr4 : Hid (Fr w (w4.setCell ⟨g, m * 2, none⟩ (Value.slice xa L xc))) := (HFr1.out.grown HX.out (.inr rfl) hgr).grown r4 (.inl rfl) (r4.stored (m * 2) _).2
  clear hx' hgr hat r4 HFr1 HX HX2 HR1 k0 HP1 HB1
  go_wp2
  go_ret
  exact ⟨_, _, rfl, HF.out, by simp only [List.map_append, List.map_cons, List.map_nil]; rw [addT_snoc, if_pos rfl], HB4.out, HFr4.out⟩

/-- addText at any row of parts. -/
theorem add_any (B : Nat) (v : Value) (qs : List Qt) (ao : Option Addr) (n cap : Nat) (said : List Int) (w : World) (hP : PsAt w B 37 v qs) (hS : ∀ w', Below B w w' → BS w' ao n cap said) (hB : B ≤ w.heap.size) (hn : n ≤ 1048576) (hq : qs.length ≤ 1048576) (ht : ∀ q ∈ qs, q.2.1.length ≤ 1048576) :
    Calls Try.prog 23 #[v, .slice ao n cap] w fun e w' => ∃ v' qs', e = .returned v' ∧ PsAt w' B 37 v' qs' ∧ qs'.map Prod.snd = addT (qs.map Prod.snd) said ∧ Below B w w' ∧ Fr w w' := by
  rcases List.eq_nil_or_concat qs with rfl | ⟨l, q, rfl⟩
  · obtain ⟨va, vc, rfl⟩ := own_slice hP.row
    exact add_none B va vc ao n cap said w hP hS hB hn
  · obtain ⟨x, t, a⟩ := q
    rw [List.concat_eq_append] at *
    have hl : (l ++ [((x : Value), (t : List Int), (a : Int))]).length = l.length + 1 := by rw [List.length_append]; rfl
    obtain ⟨g, vc, rfl, _, _⟩ := hP.row.form (by omega)
    rw [hl] at hP hq ⊢
    by_cases ha : a = -1
    · subst ha
      exact add_last B g l.length vc l x t rfl (by omega) (ht (x, t, -1) (by simp)) ao n cap said w hP hS hB hn
    · exact add_new B g l.length vc l x t a ha rfl (by omega) ao n cap said w hP hS hB hn
end Go.Proofs.Ytfnndnlhdfjggaa.edt
