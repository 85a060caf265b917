/- What edit.Split answers: what stands between spans, each in a row of the call's own. -/
import Derived.Test.YtfnndnlhdfjggaaEdtSpan
set_option linter.unusedVariables false
set_option linter.unusedSimpArgs false
namespace Go.Proofs.Ytfnndnlhdfjggaa.edt
open Go.RowKit

theorem infoBytes : (Try.prog.info? 22).map (fun i => (i.zero, i.size, i.bytes)) = some (some (.slice none 0 0), 1, 24) := by kernel_rfl
abbrev Tx := Value × List Int
/-- v is a row of the call's own, of texts that are rows of its own. -/
structure RB (w : World) (B : Nat) (v : Value) (ts : List Tx) : Prop where
  row : w.ownsRow B 22 1 v ts.length (ts.map Prod.fst)
  txt : ∀ t ∈ ts, OB w B t.1 t.2
theorem RB.nil (w : World) (B : Nat) : RB w B (.slice none 0 0) [] := ⟨World.ownsRow_nil _ _ _ _, fun t h => (by cases h)⟩
theorem RB.below {w w' : World} {B : Nat} {v : Value} {ts : List Tx} (h : RB w B v ts) (hb : Below w.heap.size w w') : RB w' B v ts := ⟨own_below h.row hb, fun t ht => (h.txt t ht).below hb⟩
theorem RB.alloc {w : World} {B : Nat} {v : Value} {ts : List Tx} (h : RB w B v ts) (o : Obj) : RB (w.alloc o) B v ts := h.below ((Below.refl _ _).alloc (Nat.le_refl _) o)
theorem RB.snoc {w w' : World} {B : Nat} {v v' : Value} {ts : List Tx} (h : RB w B v ts) (x : Value) (t : List Int) (hrow : w'.ownsRow B 22 1 v' (ts.length + 1) (ts.map Prod.fst ++ [x])) (hg : w.grownBy w' v.ownBlock) (hx : OB w B x t) : RB w' B v' (ts ++ [(x, t)]) := by
  refine ⟨by rw [List.length_append, List.map_append]; exact hrow, fun q hq => ?_⟩
  rcases List.mem_append.1 hq with hq | hq
  · exact World.ownsRow.kept (h.txt q hq) hg (own_apart (h.txt q hq) h.row (by decide))
  · obtain rfl : q = (x, t) := by simpa using hq
    exact World.ownsRow.kept hx hg (own_apart hx h.row (by decide))
/-- What stands between spans. -/
def cutL (b : List Int) : Nat → List Sp → List (List Int)
  | e, [] => [b.drop e]
  | e, p :: r => (b.drop e).take (p.1.toNat - e) :: cutL b p.2.toNat r
theorem cutL_drop (b : List Int) (e : Nat) (l : List Sp) (k : Nat) (h : k < l.length) : cutL b e (l.drop k) = (b.drop e).take ((l.getD k (0, 0)).1.toNat - e) :: cutL b (l.getD k (0, 0)).2.toNat (l.drop (k + 1)) := by
  rw [drop_cons l k (0, 0) h]; rfl
theorem one_new (w : World) (x : Value) : ∀ (j : Nat) (u : Value), [x][j]? = some u → (w.alloc (Obj.cells #[x] 22)).cell? ((⟨w.heap.size, 0, none⟩ : Addr).add j) = some u := by
  intro j u hj
  match j, hj with
  | 0, hj => simp at hj; subst hj; simp [Addr.add]
  | k + 1, hj => simp at hj
theorem OB.one {w : World} {B : Nat} {x : Value} {l : List Int} (h : OB w B x l) : ∀ u ∈ [x], u.oneCell' = true := by
  intro u hu
  obtain ⟨a, c, rfl⟩ := own_slice h
  simp at hu; subst hu; rfl

theorem split_no (ao : Option Addr) (n cap : Nat) (aS : Option Addr) (nS cS : Nat) (l : List Sp) (w : World) (hS : SS w aS nS cS l) (h : apB n 0 l = false) :
    Calls Try.prog 18 #[.slice ao n cap, .slice aS nS cS] w fun e w' => e = .returned (.tuple #[.slice none 0 0, .int .i64 1]) ∧ Below w.heap.size w w' := by
  have A := apart_any aS nS cS l n w hS
  rw [h] at A
  clear hS h
  go_enter Try.func18, Try.ntmps18
  go_wp2_with fail
  refine A.mono ?_
  rintro e w1 ⟨rfl, hb⟩
  clear A
  go_wp2
  go_ret2
  exact ⟨rfl, hb⟩

set_option maxHeartbeats 2000000 in
theorem split_yes (ao : Option Addr) (n cap : Nat) (b : List Int) (aS : Option Addr) (nS cS : Nat) (l : List Sp) (w : World) (hB : BS w ao n cap b) (hS : SS w aS nS cS l) (h : apB n 0 l = true) (hn : n ≤ 1048576) (hnS : nS ≤ 1048576) :
    Calls Try.prog 18 #[.slice ao n cap, .slice aS nS cS] w fun e w' => ∃ v ts, e = .returned (.tuple #[v, .int .i64 0]) ∧ RB w' w.heap.size v ts ∧ ts.map Prod.snd = cutL b 0 l ∧ Below w.heap.size w w' := by
  obtain ⟨i0, hi, hz0, hz1, hz2⟩ := info_parts infoBytes
  have A := apart_any aS nS cS l n w hS
  rw [h] at A
  have hnc := hB.nc
  have hcm := hB.cm
  have hSn := hS.nc
  have hSm := hS.cm
  have HB : Hid (BS w ao n cap b) := hB
  have HS : Hid (SS w aS nS cS l) := hS
  have HA : Hid (apB n 0 l = true) := h
  clear hB hS h
  go_enter Try.func18, Try.ntmps18
  go_wp2_with fail
  refine A.mono ?_
  rintro e w0 ⟨rfl, hb0⟩
  have HB0 : Hid (Below w.heap.size w w0) := hb0
  clear A hb0
  go_wp2
  go_loopw [6, 7, 17] (fun v s i wr => ∃ (k e : Nat) (ts : List Tx), k ≤ nS ∧ e ≤ n ∧ Hid (ts.length = k) ∧ i = .int .i64 k ∧ s = .int .i64 e ∧ Hid (RB wr w.heap.size v ts) ∧ Hid (ts.map Prod.snd ++ cutL b e (l.drop k) = cutL b 0 l) ∧ Hid (apB n e (l.drop k) = true) ∧ Hid (Below w.heap.size w wr)) (fun _ _ i _ => nS - (intOf i).toNat)
  case atStart => exact ⟨0, 0, [], Nat.zero_le _, Nat.zero_le _, rfl, rfl, rfl, RB.nil _ _, rfl, HA.out, HB0.out⟩
  case round =>
    clear HB0
    obtain ⟨k, e, ts, hk, he, htk, rfl, rfl, HR, HC, HP, HBE⟩ := hrel
    have hsz := HBE.out.size
    have htl : ts.length ≤ nS := by rw [htk.out]; exact hk
    by_cases hlt : k < nS
    · obtain ⟨bb, off, rfl, hc⟩ := (HS.out.below HBE.out).at_ (by omega)
      obtain ⟨c0, c1⟩ := hc k hlt
      have hll : k < l.length := by rw [HS.out.len]; exact hlt
      have hp := HP.out
      rw [apB_drop n e l k hll, Bool.and_eq_true] at hp
      obtain ⟨hp1, hp2⟩ := hp
      have hp3 := (ly_iff _ _ _).1 hp1
      have hcc := HC.out
      rw [cutL_drop b e l k hll] at hcc
      clear hc HP HC hp1
      generalize l.getD k (0, 0) = p at *
      obtain ⟨x, y⟩ := p
      simp only at c0 c1 hp3 hp2 hcc
      obtain ⟨X, rfl⟩ : ∃ X : Nat, x = X := ⟨x.toNat, by omega⟩
      obtain ⟨Y, rfl⟩ : ∃ Y : Nat, y = Y := ⟨y.toNat, by omega⟩
      rw [show ((X : Int)).toNat = X from by omega, show ((Y : Int)).toNat = Y from by omega] at hcc
      have hX1 : e ≤ X := by omega
      have hX2 : X ≤ n := by omega
      have hX3 : (X : Int) ≤ (cap : Int) := by omega
      have CL1 : Hid (cap = e → ∀ W, Below w.heap.size w W → Calls Try.prog 8 #[.slice ao (X - e) 0] W fun r w' => ∃ v, r = .returned v ∧ OB w' W.heap.size v ((b.drop e).take (X - e)) ∧ Below W.heap.size W w') := fun hce W hb => by
        have := (HB.out.below hb).sub e X (by omega) (by omega)
        rw [if_pos hce, hce, Nat.sub_self] at this
        exact clone_any _ _ _ _ W this (by omega)
      have CL2 : Hid (¬ cap = e → ∀ W, Below w.heap.size w W → Calls Try.prog 8 #[.slice (ao.map (fun x => x.add e)) (X - e) (cap - e)] W fun r w' => ∃ v, r = .returned v ∧ OB w' W.heap.size v ((b.drop e).take (X - e)) ∧ Below W.heap.size W w') := fun hce W hb => by
        have := (HB.out.below hb).sub e X (by omega) (by omega)
        rw [if_neg hce] at this
        exact clone_any _ _ _ _ W this (by omega)
      have HC2 : Hid (ts.map Prod.snd ++ (b.drop e).take (X - e) :: cutL b Y (l.drop (k + 1)) = cutL b 0 l) := hcc
      have HP2 : Hid (apB n Y (l.drop (k + 1)) = true) := hp2
      clear hcc hp2
      go_wp2_with fail
      all_goals
        first | (have hce : cap = e := (by assumption); have hce2 := hce.symm; clear hce; subst hce2; refine (CL1.out rfl _ (HBE.out.alloc hsz _)).mono ?_) | refine (CL2.out (by assumption) _ (HBE.out.alloc hsz _)).mono ?_
        rintro r w1 ⟨cv, rfl, hO, hb1⟩
        have hsz1 := hb1.size
        simp only [World.size_alloc] at hsz1
        have k1 : ∀ o, (w1.alloc o).cell? ⟨wr.heap.size, 1, none⟩ = some (.int .i64 Y) := fun o => by
          have h1 := (hb1.block wr.heap.size (by simp)).trans (heap_alloc_new wr _)
          simp [World.cell?, Below.heap_alloc w1 o wr.heap.size (by omega), h1]
        have HO : Hid (OB w1 w.heap.size cv ((b.drop e).take (X - e))) := OB.mono hO (by simp; omega)
        have HR1 : Hid (RB w1 w.heap.size u6 ts) := (HR.out.alloc _).below hb1
        have HBE1 : Hid (Below w.heap.size w w1) := (HBE.out.alloc hsz _).trans (hb1.mono (by simp; omega))
        have HVB : Hid (∀ k, u6.ownBlock = some k → w.heap.size ≤ k) := fun k e => (HR1.out.row.lt k e).1
        have HVN : Hid (some wr.heap.size ≠ u6.ownBlock) := fun e => by have := (HR.out.row.lt _ e.symm).2; omega
        obtain ⟨ca, cl, cc, rfl⟩ : ∃ a m c, cv = Value.slice a m c := by obtain ⟨a, c, e⟩ := own_slice hO; exact ⟨a, _, c, e⟩
        clear CL1 CL2 hO hb1 HR HBE
        go_wp2_with (at_builtin; refine wpList_append_lies _ rfl _ _ 48 rfl w.heap.size 22 i0 (.slice none 0 0) 1 24 Try.underlying48 hi hz0 hz1 hz2 rfl (by decide) _ ts.length _ rfl (HR1.out.row.alloc _) ⟨w1.heap.size, 0, none⟩ 1 1 [.slice ca cl cc] rfl rfl (one_new w1 _) HO.out.one (by decide) (by unfold maxLen; omega) (by omega) (by simp; omega) w1.heap.size.succ (by simp) ?_)
        intro g c5 w5 hown hgrow hat hlt5
        have km : w5.cell? ⟨wr.heap.size, 1, none⟩ = some (.int .i64 Y) := hgrow.cell (k1 _) HVN.out
        have R1 : Hid (RB w5 w.heap.size (.slice (some ⟨g, 0, none⟩) (ts.length + 1) c5) (ts ++ [(.slice ca cl cc, (b.drop e).take (X - e))])) := (HR1.out.alloc _).snoc _ _ hown hgrow (HO.out.below ((Below.refl _ _).alloc (Nat.le_refl _) _))
        have R2 : Hid (Below w.heap.size w w5) := Below.grown (HBE1.out.alloc (by omega) _) hgrow (by simp; omega) HVB.out
        have R3 : Hid ((ts ++ [((.slice ca cl cc : Value), (b.drop e).take (X - e))]).map Prod.snd ++ cutL b Y (l.drop (k + 1)) = cutL b 0 l) := by rw [List.map_append, List.append_assoc]; exact HC2.out
        clear hown hgrow hat hlt5 HR1 HBE1 HO k1 HC2
        go_wp2
        go_roundw
        case rel => exact ⟨k + 1, Y, _, by omega, by omega, by show (ts ++ [_]).length = k + 1; rw [List.length_append, htk.out]; rfl, by go_num, by go_num, R1, R3, HP2, R2⟩
        case measure => simp [intOf]; omega
    · obtain rfl : k = nS := by omega
      have hcc := HC.out
      rw [List.drop_eq_nil_of_le (by rw [HS.out.len]; exact Nat.le_refl _)] at hcc
      have HC2 : Hid (ts.map Prod.snd ++ [b.drop e] = cutL b 0 l) := hcc
      have CL1 : Hid (cap = e → ∀ W, Below w.heap.size w W → Calls Try.prog 8 #[.slice ao (n - e) 0] W fun r w' => ∃ v, r = .returned v ∧ OB w' W.heap.size v (b.drop e) ∧ Below W.heap.size W w') := fun hce W hb => by
        have := (HB.out.below hb).sub e n (by omega) (by omega)
        rw [if_pos hce, hce, Nat.sub_self, List.take_of_length_le (by rw [List.length_drop, HB.out.len]; exact Nat.le_refl _)] at this
        exact clone_any _ _ _ _ W this (by omega)
      have CL2 : Hid (¬ cap = e → ∀ W, Below w.heap.size w W → Calls Try.prog 8 #[.slice (ao.map (fun x => x.add e)) (n - e) (cap - e)] W fun r w' => ∃ v, r = .returned v ∧ OB w' W.heap.size v (b.drop e) ∧ Below W.heap.size W w') := fun hce W hb => by
        have := (HB.out.below hb).sub e n (by omega) (by omega)
        rw [if_neg hce, List.take_of_length_le (by rw [List.length_drop, HB.out.len]; exact Nat.le_refl _)] at this
        exact clone_any _ _ _ _ W this (by omega)
      clear hcc HC HP
      go_wp2_with fail
      all_goals
        first | (have hce : cap = e := (by assumption); have hce2 := hce.symm; clear hce; subst hce2; refine (CL1.out rfl _ HBE.out).mono ?_) | refine (CL2.out (by assumption) _ HBE.out).mono ?_
        rintro r w1 ⟨cv, rfl, hO, hb1⟩
        have hsz1 := hb1.size
        have HO : Hid (OB w1 w.heap.size cv (b.drop e)) := OB.mono hO hsz
        have HR1 : Hid (RB w1 w.heap.size u6 ts) := HR.out.below hb1
        have HBE1 : Hid (Below w.heap.size w w1) := HBE.out.trans (hb1.mono hsz)
        have HVB : Hid (∀ k, u6.ownBlock = some k → w.heap.size ≤ k) := fun k e => (HR1.out.row.lt k e).1
        obtain ⟨ca, cl, cc, rfl⟩ : ∃ a m c, cv = Value.slice a m c := by obtain ⟨a, c, e⟩ := own_slice hO; exact ⟨a, _, c, e⟩
        clear CL1 CL2 hO hb1 HR HBE
        go_wp2_with (at_builtin; refine wpList_append_lies _ rfl _ _ 48 rfl w.heap.size 22 i0 (.slice none 0 0) 1 24 Try.underlying48 hi hz0 hz1 hz2 rfl (by decide) _ ts.length _ rfl (HR1.out.row.alloc _) ⟨w1.heap.size, 0, none⟩ 1 1 [.slice ca cl cc] rfl rfl (one_new w1 _) HO.out.one (by decide) (by unfold maxLen; omega) (by omega) (by simp; omega) w1.heap.size.succ (by simp) ?_)
        intro g c5 w5 hown hgrow hat hlt5
        have R1 : Hid (RB w5 w.heap.size (.slice (some ⟨g, 0, none⟩) (ts.length + 1) c5) (ts ++ [(.slice ca cl cc, b.drop e)])) := (HR1.out.alloc _).snoc _ _ hown hgrow (HO.out.below ((Below.refl _ _).alloc (Nat.le_refl _) _))
        have R2 : Hid (Below w.heap.size w w5) := Below.grown (HBE1.out.alloc (by omega) _) hgrow (by simp; omega) HVB.out
        have R3 : Hid ((ts ++ [((.slice ca cl cc : Value), b.drop e)]).map Prod.snd = cutL b 0 l) := by rw [List.map_append]; exact HC2.out
        clear hown hgrow hat hlt5 HR1 HBE1 HO HC2
        go_wp2
        go_ret2
        exact ⟨_, _, rfl, R1.out, R3.out, R2.out⟩
end Go.Proofs.Ytfnndnlhdfjggaa.edt
