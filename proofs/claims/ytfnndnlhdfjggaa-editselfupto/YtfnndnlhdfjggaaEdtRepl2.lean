/- What edit.Replace answers at matches of one span each. -/
import Derived.Test.YtfnndnlhdfjggaaEdtRepl
set_option linter.unusedVariables false
set_option linter.unusedSimpArgs false
namespace Go.Proofs.Ytfnndnlhdfjggaa.edt
open Go.RowKit

/-- Bytes with spans replaced. -/
def replL (b : List Int) (X : Nat → Nat → List Int) : Nat → List Sp → List Int
  | e, [] => b.drop e
  | e, p :: r => (b.drop e).take (p.1.toNat - e) ++ X p.1.toNat p.2.toNat ++ replL b X p.2.toNat r
theorem replL_drop (b : List Int) (X : Nat → Nat → List Int) (e : Nat) (l : List Sp) (k : Nat) (h : k < l.length) : replL b X e (l.drop k) = (b.drop e).take ((l.getD k (0, 0)).1.toNat - e) ++ X (l.getD k (0, 0)).1.toNat (l.getD k (0, 0)).2.toNat ++ replL b X (l.getD k (0, 0)).2.toNat (l.drop (k + 1)) := by
  rw [drop_cons l k (0, 0) h]; rfl

theorem replace_no (ao : Option Addr) (n cap : Nat) (aS : Option Addr) (nS cS : Nat) (l : List Sp) (pv : Value) (w : World) (hS : FS w aS nS cS l) (h : apB n 0 l = false) (hnS : nS ≤ 1048576) :
    Calls Try.prog 15 #[.slice ao n cap, .slice aS nS cS, pv] w fun e w' => e = .returned (.tuple #[.slice none 0 0, .int .i64 1]) ∧ Below w.heap.size w w' := by
  have A := canBe_any aS nS cS l n w hS hnS
  rw [h] at A
  clear hS h
  go_enter Try.func15, Try.ntmps15
  go_wp2_with fail
  refine A.mono ?_
  rintro e w1 ⟨rfl, hb⟩
  clear A
  go_wp2
  go_ret2
  exact ⟨rfl, hb⟩

set_option maxHeartbeats 2000000 in
theorem replace_yes (ao : Option Addr) (n cap : Nat) (b : List Int) (aS : Option Addr) (nS cS : Nat) (l : List Sp) (pv : Value) (X : Nat → Nat → List Int) (w : World) (hB : BS w ao n cap b) (hS : FS w aS nS cS l) (h : apB n 0 l = true) (hn : n ≤ 1048576) (hnS : nS ≤ 1048576)
    (hXl : ∀ x y, x ≤ y → y ≤ n → (X x y).length ≤ 1048576)
    (hEX : ∀ (W : World) (ov : Value) (o : List Int) (g x y : Nat), Below w.heap.size w W → OB W w.heap.size ov o → W.cell? ⟨g, 0, none⟩ = some (.int .i64 x) → W.cell? ⟨g, 1, none⟩ = some (.int .i64 y) → x ≤ y → y ≤ n → o.length ≤ 35184372088832 →
      Calls Try.prog 31 #[ov, pv, .slice ao n cap, .agg #[.slice (some ⟨g, 0, none⟩) 1 1]] W fun e w' => ∃ v', e = .returned v' ∧ OB w' w.heap.size v' (o ++ X x y) ∧ Below w.heap.size W w' ∧ Fr W w') :
    Calls Try.prog 15 #[.slice ao n cap, .slice aS nS cS, pv] w fun e w' => ∃ v, e = .returned (.tuple #[v, .int .i64 0]) ∧ OB w' w.heap.size v (replL b X 0 l) ∧ Below w.heap.size w w' := by
  have A := canBe_any aS nS cS l n w hS hnS
  rw [h] at A
  have hnc := hB.nc
  have hcm := hB.cm
  have hSn := hS.nc
  have hSm := hS.cm
  have HB : Hid (BS w ao n cap b) := hB
  have HS : Hid (FS w aS nS cS l) := hS
  have HA : Hid (apB n 0 l = true) := h
  have HXL : Hid (∀ x y, x ≤ y → y ≤ n → (X x y).length ≤ 1048576) := hXl
  have HEX : Hid (∀ (W : World) (ov : Value) (o : List Int) (g x y : Nat), Below w.heap.size w W → OB W w.heap.size ov o → W.cell? ⟨g, 0, none⟩ = some (.int .i64 x) → W.cell? ⟨g, 1, none⟩ = some (.int .i64 y) → x ≤ y → y ≤ n → o.length ≤ 35184372088832 →
      Calls Try.prog 31 #[ov, pv, .slice ao n cap, .agg #[.slice (some ⟨g, 0, none⟩) 1 1]] W fun e w' => ∃ v', e = .returned v' ∧ OB w' w.heap.size v' (o ++ X x y) ∧ Below w.heap.size W w' ∧ Fr W w') := hEX
  clear hB hS h hXl hEX
  go_enter Try.func15, Try.ntmps15
  go_wp2_with fail
  refine A.mono ?_
  rintro e w0 ⟨rfl, hb0⟩
  have HB0 : Hid (Below w.heap.size w w0) := hb0
  clear A hb0
  go_wp2
  go_loopw [8, 9, 20] (fun v s i wr => ∃ (k e : Nat) (o : List Int), k ≤ nS ∧ e ≤ n ∧ i = .int .i64 k ∧ s = .int .i64 e ∧ Hid (o.length ≤ e + k * 1048576) ∧ Hid (OB wr w.heap.size v o) ∧ Hid (o ++ replL b X e (l.drop k) = replL b X 0 l) ∧ Hid (apB n e (l.drop k) = true) ∧ Hid (Below w.heap.size w wr)) (fun _ _ i _ => nS - (intOf i).toNat)
  case atStart => exact ⟨0, 0, [], Nat.zero_le _, Nat.zero_le _, rfl, rfl, Nat.zero_le _, OB.nil _ _, rfl, HA.out, HB0.out⟩
  case round =>
    clear HB0
    obtain ⟨k, e, o, hk, he, rfl, rfl, HL, HO, HC, HP, HBE⟩ := hrel
    have hsz := HBE.out.size
    have hol := HL.out
    by_cases hlt : k < nS
    · obtain ⟨bb, off, rfl, hc⟩ := HS.out.at_ (by omega)
      obtain ⟨g, c0, c1, c2⟩ := hc k hlt
      have hll : k < l.length := by rw [HS.out.len]; exact hlt
      have hp := HP.out
      rw [apB_drop n e l k hll, Bool.and_eq_true] at hp
      obtain ⟨hp1, hp2⟩ := hp
      have hp3 := (ly_iff _ _ _).1 hp1
      have hcc := HC.out
      rw [replL_drop b X e l k hll] at hcc
      clear hc HP HC hp1
      generalize l.getD k (0, 0) = p at *
      obtain ⟨x, y⟩ := p
      simp only at c1 c2 hp3 hp2 hcc
      obtain ⟨x, rfl⟩ : ∃ X : Nat, x = X := ⟨x.toNat, by omega⟩
      obtain ⟨y, rfl⟩ : ∃ Y : Nat, y = Y := ⟨y.toNat, by omega⟩
      rw [show ((x : Int)).toNat = x from by omega, show ((y : Int)).toNat = y from by omega] at hcc
      have hx1 : e ≤ x := by omega
      have hxy : x ≤ y := by omega
      have hyn : y ≤ n := by omega
      have hx3 : (x : Int) ≤ (cap : Int) := by omega
      have hg := World.block_lt_of_cell? w _ c1
      simp only at hg
      have r0 := (HBE.out.cell (World.block_lt_of_cell? w _ c0)).trans c0
      have r1 := (HBE.out.cell (World.block_lt_of_cell? w _ c1)).trans c1
      have r2 := (HBE.out.cell (World.block_lt_of_cell? w _ c2)).trans c2
      have d1 : ∀ q, (wr.alloc q).cell? ⟨g, 0, none⟩ = some (.int .i64 x) := fun q => (World.cell?_of_block (Below.heap_alloc wr q g (by omega))).trans r1
      have d2 : ∀ q, (wr.alloc q).cell? ⟨g, 1, none⟩ = some (.int .i64 y) := fun q => (World.cell?_of_block (Below.heap_alloc wr q g (by omega))).trans r2
      have hgn : ¬ g = wr.heap.size := by omega
      have CL3 : Hid (∀ W, Below w.heap.size w W → BS W (if cap = e then ao else ao.map (fun z => z.add e)) (x - e) (cap - e) ((b.drop e).take (x - e))) := fun W hb => (HB.out.below hb).sub e x hx1 (by omega)
      have HC2 : Hid (o ++ ((b.drop e).take (x - e) ++ X x y ++ replL b X y (l.drop (k + 1))) = replL b X 0 l) := hcc
      have HP2 : Hid (apB n y (l.drop (k + 1)) = true) := hp2
      have hXl := HXL.out x y hxy hyn
      have HW2 : Hid (Below w.heap.size w ((wr.alloc (.cells #[.slice (some ⟨g, 0, none⟩) 1 1] 56)).alloc (.cells #[.int .i64 x, .int .i64 y] 54))) := (HBE.out.alloc hsz _).alloc (by simp; omega) _
      have HO2 : Hid (OB ((wr.alloc (.cells #[.slice (some ⟨g, 0, none⟩) 1 1] 56)).alloc (.cells #[.int .i64 x, .int .i64 y] 54)) w.heap.size u8 o) := (HO.out.below ((Below.refl _ _).alloc (Nat.le_refl _) _)).below ((Below.refl _ _).alloc (Nat.le_refl _) _)
      have HVB : Hid (∀ k, u8.ownBlock = some k → w.heap.size ≤ k) := fun k e => (World.ownsRow.lt HO.out k e).1
      have hF : ((wr.alloc (.cells #[.slice (some ⟨g, 0, none⟩) 1 1] 56)).alloc (.cells #[.int .i64 x, .int .i64 y] 54)).heap[wr.heap.size]? = some (.cells #[.slice (some ⟨g, 0, none⟩) 1 1] 56 (0, 0)) := (Below.heap_alloc _ _ _ (by simp)).trans (heap_alloc_new wr _)
      have hG : ((wr.alloc (.cells #[.slice (some ⟨g, 0, none⟩) 1 1] 56)).alloc (.cells #[.int .i64 x, .int .i64 y] 54)).heap[wr.heap.size + 1]? = some (.cells #[.int .i64 x, .int .i64 y] 54 (0, 0)) := by
        have := heap_alloc_new (wr.alloc (.cells #[.slice (some ⟨g, 0, none⟩) 1 1] 56)) (.cells #[.int .i64 x, .int .i64 y] 54)
        rw [World.size_alloc] at this
        exact this
      have HF : Hid (((wr.alloc (.cells #[.slice (some ⟨g, 0, none⟩) 1 1] 56)).alloc (.cells #[.int .i64 x, .int .i64 y] 54)).heap[wr.heap.size]? = some (.cells #[.slice (some ⟨g, 0, none⟩) 1 1] 56 (0, 0))) := hF
      have HG : Hid (((wr.alloc (.cells #[.slice (some ⟨g, 0, none⟩) 1 1] 56)).alloc (.cells #[.int .i64 x, .int .i64 y] 54)).heap[wr.heap.size + 1]? = some (.cells #[.int .i64 x, .int .i64 y] 54 (0, 0))) := hG
      clear hcc hp2 hF hG
      go_wp2_with (at_builtin; refine wpList_app rfl _ _ rfl w.heap.size _ o rfl HO2.out _ _ _ _ rfl (CL3.out _ HW2.out) (by omega) (by simp; omega) ?_)
      all_goals
        first | (have hce : cap = e := (by assumption); have hce2 := hce.symm; clear hce; subst hce2) | skip
        intro v1 w1 hO1 hgr1 _
        have HO1 : Hid (OB w1 w.heap.size v1 (o ++ (b.drop e).take (x - e))) := hO1
        have HB1 : Hid (Below w.heap.size w w1) := Below.grown HW2.out hgr1 (by simp; omega) HVB.out
        have hF1 : w1.heap[wr.heap.size]? = some (.cells #[.slice (some ⟨g, 0, none⟩) 1 1] 56 (0, 0)) := (hgr1.block _ (Array.getElem?_eq_some_iff.1 HF.out).1 (fun e9 => row_ne HO2.out HF.out (by decide) e9.symm)).trans HF.out
        have hG1 : w1.heap[wr.heap.size + 1]? = some (.cells #[.int .i64 x, .int .i64 y] 54 (0, 0)) := (hgr1.block _ (Array.getElem?_eq_some_iff.1 HG.out).1 (fun e9 => row_ne HO2.out HG.out (by decide) e9.symm)).trans HG.out
        have f1 : w1.cell? ⟨wr.heap.size, 0, none⟩ = some (.slice (some ⟨g, 0, none⟩) 1 1) := by simp [World.cell?, hF1]
        have q1 := (HB1.out.cell (World.block_lt_of_cell? w _ c1)).trans c1
        have q2 := (HB1.out.cell (World.block_lt_of_cell? w _ c2)).trans c2
        have hol2 : (o ++ (b.drop e).take (x - e)).length ≤ x + k * 1048576 := by rw [List.length_append, List.length_take]; omega
        have EX := HEX.out w1 v1 _ g x y HB1.out HO1.out q1 q2 hxy hyn (by omega)
        have HG1 : Hid (w1.heap[wr.heap.size + 1]? = some (.cells #[.int .i64 x, .int .i64 y] 54 (0, 0))) := hG1
        clear hO1 hgr1 hF1 hG1 q1 q2 HF HG HO2 HW2 CL3 d1 d2 r0 r1 r2 c0 c1 c2 HO HBE
        go_wp2_with fail
        refine EX.mono ?_
        rintro r w2 ⟨v2, rfl, hO2, hb2, hf2⟩
        have hG2 := hf2 _ _ _ _ HG1.out (by decide) (by decide)
        have k2 : w2.cell? ⟨wr.heap.size + 1, 1, none⟩ = some (.int .i64 y) := by simp [World.cell?, hG2]
        have R1 : Hid (OB w2 w.heap.size v2 (o ++ (b.drop e).take (x - e) ++ X x y)) := hO2
        have R2 : Hid (Below w.heap.size w w2) := HB1.out.trans hb2
        have R3 : Hid ((o ++ (b.drop e).take (x - e) ++ X x y) ++ replL b X y (l.drop (k + 1)) = replL b X 0 l) := by show (o ++ (b.drop e).take (x - e) ++ X x y) ++ replL b X y (l.drop (k + 1)) = replL b X 0 l; rw [← HC2.out]; simp only [List.append_assoc]
        have R4 : Hid ((o ++ (b.drop e).take (x - e) ++ X x y).length ≤ y + (k + 1) * 1048576) := by show (o ++ (b.drop e).take (x - e) ++ X x y).length ≤ y + (k + 1) * 1048576; rw [List.length_append]; omega
        clear EX hO2 hb2 hf2 hG2 HG1 HO1 HB1 HC2 f1
        go_wp2
        go_roundw
        case rel => exact ⟨k + 1, y, _, by omega, by omega, by go_num, by go_num, R4, R1, R3, HP2, R2⟩
        case measure => simp [intOf]; omega
    · obtain rfl : k = nS := by omega
      have hcc := HC.out
      rw [List.drop_eq_nil_of_le (by rw [HS.out.len]; exact Nat.le_refl _)] at hcc
      have HC2 : Hid (o ++ b.drop e = replL b X 0 l) := hcc
      have CL3 : Hid (∀ W, Below w.heap.size w W → BS W (if cap = e then ao else ao.map (fun z => z.add e)) (n - e) (cap - e) (b.drop e)) := fun W hb => by
        have := (HB.out.below hb).sub e n he (Nat.le_refl _)
        rw [List.take_of_length_le (by rw [List.length_drop, HB.out.len]; exact Nat.le_refl _)] at this
        exact this
      have HVB : Hid (∀ k, u8.ownBlock = some k → w.heap.size ≤ k) := fun k e => (World.ownsRow.lt HO.out k e).1
      clear hcc HC HP
      go_wp2_with (at_builtin; refine wpList_app rfl _ _ rfl w.heap.size _ o rfl HO.out _ _ _ _ rfl (CL3.out _ HBE.out) (by omega) hsz ?_)
      all_goals
        first | (have hce : cap = e := (by assumption); have hce2 := hce.symm; clear hce; subst hce2) | skip
        intro v1 w1 hO1 hgr1 _
        have R1 : Hid (OB w1 w.heap.size v1 (o ++ b.drop e)) := hO1
        have R2 : Hid (Below w.heap.size w w1) := Below.grown HBE.out hgr1 hsz HVB.out
        clear hO1 hgr1 HO HBE CL3
        go_wp2
        go_ret2
        exact ⟨_, rfl, by rw [← HC2.out]; exact R1.out, R2.out⟩
end Go.Proofs.Ytfnndnlhdfjggaa.edt
