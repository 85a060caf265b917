/- What the document's Split answers: the same as the program's. -/
import Derived.Test.YtfnndnlhdfjggaaEdtSplit
import Derived.Test.YtfnndnlhdfjggaaEdtFo
set_option linter.unusedVariables false
set_option linter.unusedSimpArgs false
namespace Go.Proofs.Ytfnndnlhdfjggaa.edt
open Go.RowKit

theorem found_new (w : World) (x : Value) : ∀ (j : Nat) (u : Value), [x][j]? = some u → (w.alloc (Obj.cells #[x] 56)).cell? ((⟨w.heap.size, 0, none⟩ : Addr).add j) = some u := by
  intro j u hj
  match j, hj with
  | 0, hj => simp at hj; subst hj; simp [Addr.add]
  | k + 1, hj => simp at hj

set_option maxHeartbeats 2000000 in
theorem rsplit_no (ao : Option Addr) (n cap : Nat) (b : List Int) (aS : Option Addr) (nS cS : Nat) (l : List Sp) (w : World) (hB : BS w ao n cap b) (hS : SS w aS nS cS l) (h : apB n 0 l = false) (hn : n ≤ 1048576) (hnS : nS ≤ 1048576) :
    Calls Try.prog 19 #[.slice ao n cap, .slice aS nS cS] w fun e w' => e = .returned (.tuple #[.slice none 0 0, .int .i64 1]) ∧ Below w.heap.size w w' := by
  obtain ⟨i0, hi, hz0, hz1, hz2⟩ := info_parts infoBytes
  obtain ⟨i1, hj, hy0, hy1, hy2⟩ := info_parts infoFound
  have hnc := hB.nc
  have hcm := hB.cm
  have hSn := hS.nc
  have hSm := hS.cm
  have HB : Hid (BS w ao n cap b) := hB
  have HS : Hid (SS w aS nS cS l) := hS
  have HA : Hid (apB n 0 l = false) := h
  clear hB hS h
  go_enter Try.func19, Try.ntmps19
  go_wp2
  go_loopw [6, 15] (fun v i wr => ∃ (k : Nat) (gs : List Nat), k ≤ nS ∧ i = .int .i64 k ∧ Hid (gs.length = k) ∧ Hid (FO wr w.heap.size v gs (l.take k)) ∧ Hid (Below w.heap.size w wr)) (fun _ i _ => nS - (intOf i).toNat)
  case atStart => exact ⟨0, [], Nat.zero_le _, rfl, rfl, by rw [List.take_zero]; exact FO.nil _ _, Below.refl _ _⟩
  case round =>
    obtain ⟨k, gs, hk, rfl, HGL, HR, HBE⟩ := hrel
    have hsz := HBE.out.size
    have hgl : gs.length ≤ nS := by rw [HGL.out]; exact hk
    by_cases hlt : k < nS
    · obtain ⟨bb, off, rfl, hc⟩ := (HS.out.below HBE.out).at_ (by omega)
      obtain ⟨c0, c1⟩ := hc k hlt
      have HTK : Hid (l.take (k + 1) = l.take k ++ [l.getD k (0, 0)]) := take_snoc l k (0, 0) (by rw [HS.out.len]; exact hlt)
      clear hc
      generalize l.getD k (0, 0) = p at *
      obtain ⟨x, y⟩ := p
      simp only at c0 c1
      have HVB : Hid (∀ k, u6.ownBlock = some k → w.heap.size ≤ k) := fun k e => (HR.out.row.lt k e).1
      go_wp2_with (at_builtin; refine wpList_append_lies _ rfl _ _ 41 rfl w.heap.size 56 i1 (.agg #[.slice none 0 0]) 1 24 Try.underlying41 hj hy0 hy1 hy2 rfl (by decide) _ gs.length _ rfl (((HR.out.alloc _).alloc _).alloc _).row ⟨wr.heap.size + 1 + 1, 0, none⟩ 1 1 [.slice (some ⟨wr.heap.size + 1, 0, none⟩) 1 1] rfl rfl ?f1 ?f2 (by decide) ?f3 ?f4 ?f5 (wr.heap.size + 3) ?f6 ?_)
      case f1 => have := found_new ((wr.alloc (.cells #[.int .i64 x, .int .i64 y] 54)).alloc (.cells #[.int .i64 x, .int .i64 y] 54)) (.slice (some ⟨wr.heap.size + 1, 0, none⟩) 1 1); simpa using this
      case f2 => intro u hu; simp at hu; subst hu; rfl
      case f3 => unfold maxLen; omega
      case f4 => omega
      case f5 => simp; omega
      case f6 => simp
      intro g c5 w5 hown hgrow hat hlt5
      have R1 : Hid (FO w5 w.heap.size (.slice (some ⟨g, 0, none⟩) (gs.length + 1) c5) (gs ++ [wr.heap.size + 1]) (l.take (k + 1))) := by
        rw [HTK.out]
        refine (((HR.out.alloc _).alloc _).alloc _).snoc _ x y ?_ hown hgrow
        rw [Below.heap_alloc _ _ _ (by simp)]
        have := heap_alloc_new (wr.alloc (.cells #[.int .i64 x, .int .i64 y] 54)) (.cells #[.int .i64 x, .int .i64 y] 54)
        simpa using this
      have R2 : Hid (Below w.heap.size w w5) := Below.grown (((HBE.out.alloc hsz _).alloc (by simp; omega) _).alloc (by simp; omega) _) hgrow (by simp; omega) HVB.out
      clear hown hgrow hat hlt5 HR HBE HTK
      go_wp2
      go_roundw
      case rel => exact ⟨k + 1, gs ++ [wr.heap.size + 1], by omega, by go_num, by show (gs ++ [_]).length = k + 1; rw [List.length_append, HGL.out]; rfl, R1, R2⟩
      case measure => simp [intOf]; omega
    · obtain rfl : nS = k := by omega
      have hf := HR.out
      rw [List.take_of_length_le (by rw [HS.out.len]; exact Nat.le_refl _)] at hf
      obtain ⟨fa, fc, rfl, hfs⟩ := hf.fs
      rw [HS.out.len] at hfs
      have MA := may_any fa nS fc l n wr hfs
      rw [HA.out] at MA
      have hsl : l.length = nS := HS.out.len
      rw [hsl]
      clear hf hfs HR HGL hgl
      go_wp2_with fail
      refine MA.mono ?_
      rintro e w0 ⟨rfl, hb0⟩
      have R1 : Hid (Below w.heap.size w w0) := HBE.out.trans (hb0.mono hsz)
      clear MA hb0 HBE
      go_wp2
      go_ret2
      exact ⟨rfl, R1.out⟩

set_option maxHeartbeats 2000000 in
theorem rsplit_yes (ao : Option Addr) (n cap : Nat) (b : List Int) (aS : Option Addr) (nS cS : Nat) (l : List Sp) (w : World) (hB : BS w ao n cap b) (hS : SS w aS nS cS l) (h : apB n 0 l = true) (hn : n ≤ 1048576) (hnS : nS ≤ 1048576) :
    Calls Try.prog 19 #[.slice ao n cap, .slice aS nS cS] w fun e w' => ∃ v ts, e = .returned (.tuple #[v, .int .i64 0]) ∧ RB w' w.heap.size v ts ∧ ts.map Prod.snd = cutL b 0 l ∧ Below w.heap.size w w' := by
  obtain ⟨i0, hi, hz0, hz1, hz2⟩ := info_parts infoBytes
  obtain ⟨i1, hj, hy0, hy1, hy2⟩ := info_parts infoFound
  have hnc := hB.nc
  have hcm := hB.cm
  have hSn := hS.nc
  have hSm := hS.cm
  have HB : Hid (BS w ao n cap b) := hB
  have HS : Hid (SS w aS nS cS l) := hS
  have HA : Hid (apB n 0 l = true) := h
  clear hB hS h
  go_enter Try.func19, Try.ntmps19
  go_wp2
  go_loopw [6, 15] (fun v i wr => ∃ (k : Nat) (gs : List Nat), k ≤ nS ∧ i = .int .i64 k ∧ Hid (gs.length = k) ∧ Hid (FO wr w.heap.size v gs (l.take k)) ∧ Hid (Below w.heap.size w wr)) (fun _ i _ => nS - (intOf i).toNat)
  case atStart => exact ⟨0, [], Nat.zero_le _, rfl, rfl, by rw [List.take_zero]; exact FO.nil _ _, Below.refl _ _⟩
  case round =>
    obtain ⟨k, gs, hk, rfl, HGL, HR, HBE⟩ := hrel
    have hsz := HBE.out.size
    have hgl : gs.length ≤ nS := by rw [HGL.out]; exact hk
    by_cases hlt : k < nS
    · obtain ⟨bb, off, rfl, hc⟩ := (HS.out.below HBE.out).at_ (by omega)
      obtain ⟨c0, c1⟩ := hc k hlt
      have HTK : Hid (l.take (k + 1) = l.take k ++ [l.getD k (0, 0)]) := take_snoc l k (0, 0) (by rw [HS.out.len]; exact hlt)
      clear hc
      generalize l.getD k (0, 0) = p at *
      obtain ⟨x, y⟩ := p
      simp only at c0 c1
      have HVB : Hid (∀ k, u6.ownBlock = some k → w.heap.size ≤ k) := fun k e => (HR.out.row.lt k e).1
      go_wp2_with (at_builtin; refine wpList_append_lies _ rfl _ _ 41 rfl w.heap.size 56 i1 (.agg #[.slice none 0 0]) 1 24 Try.underlying41 hj hy0 hy1 hy2 rfl (by decide) _ gs.length _ rfl (((HR.out.alloc _).alloc _).alloc _).row ⟨wr.heap.size + 1 + 1, 0, none⟩ 1 1 [.slice (some ⟨wr.heap.size + 1, 0, none⟩) 1 1] rfl rfl ?f1 ?f2 (by decide) ?f3 ?f4 ?f5 (wr.heap.size + 3) ?f6 ?_)
      case f1 => have := found_new ((wr.alloc (.cells #[.int .i64 x, .int .i64 y] 54)).alloc (.cells #[.int .i64 x, .int .i64 y] 54)) (.slice (some ⟨wr.heap.size + 1, 0, none⟩) 1 1); simpa using this
      case f2 => intro u hu; simp at hu; subst hu; rfl
      case f3 => unfold maxLen; omega
      case f4 => omega
      case f5 => simp; omega
      case f6 => simp
      intro g c5 w5 hown hgrow hat hlt5
      have R1 : Hid (FO w5 w.heap.size (.slice (some ⟨g, 0, none⟩) (gs.length + 1) c5) (gs ++ [wr.heap.size + 1]) (l.take (k + 1))) := by
        rw [HTK.out]
        refine (((HR.out.alloc _).alloc _).alloc _).snoc _ x y ?_ hown hgrow
        rw [Below.heap_alloc _ _ _ (by simp)]
        have := heap_alloc_new (wr.alloc (.cells #[.int .i64 x, .int .i64 y] 54)) (.cells #[.int .i64 x, .int .i64 y] 54)
        simpa using this
      have R2 : Hid (Below w.heap.size w w5) := Below.grown (((HBE.out.alloc hsz _).alloc (by simp; omega) _).alloc (by simp; omega) _) hgrow (by simp; omega) HVB.out
      clear hown hgrow hat hlt5 HR HBE HTK
      go_wp2
      go_roundw
      case rel => exact ⟨k + 1, gs ++ [wr.heap.size + 1], by omega, by go_num, by show (gs ++ [_]).length = k + 1; rw [List.length_append, HGL.out]; rfl, R1, R2⟩
      case measure => simp [intOf]; omega
    · obtain rfl : nS = k := by omega
      have hf := HR.out
      rw [List.take_of_length_le (by rw [HS.out.len]; exact Nat.le_refl _)] at hf
      obtain ⟨fa, fc, rfl, hfs⟩ := hf.fs
      rw [HS.out.len] at hfs
      have MA := may_any fa nS fc l n wr hfs
      rw [HA.out] at MA
      have hsl : l.length = nS := HS.out.len
      rw [hsl]
      clear hf hfs HR HGL hgl hk hlt
      go_wp2_with fail
      refine MA.mono ?_
      rintro e w0 ⟨rfl, hb0⟩
      have HB0 : Hid (Below w.heap.size w w0) := HBE.out.trans (hb0.mono hsz)
      clear MA hb0 HBE hsz
      go_wp2
      go_loopw [9, 10, 33] (fun v s i wr => ∃ (k e : Nat) (ts : List Tx), k ≤ nS ∧ e ≤ n ∧ Hid (ts.length = k) ∧ i = .int .i64 k ∧ s = .int .i64 e ∧ Hid (RB wr w.heap.size v ts) ∧ Hid (ts.map Prod.snd ++ cutL b e (l.drop k) = cutL b 0 l) ∧ Hid (apB n e (l.drop k) = true) ∧ Hid (Below w.heap.size w wr)) (fun _ _ i _ => nS - (intOf i).toNat)
      case atStart => exact ⟨0, 0, [], Nat.zero_le _, Nat.zero_le _, rfl, rfl, rfl, RB.nil _ _, rfl, HA.out, HB0.out⟩
      case round =>
        clear HB0
        obtain ⟨i2, hk2, hx0, hx1, hx2⟩ := info_parts infoByte
        obtain ⟨k, e, ts, hk, he, htk, rfl, rfl, HR, HC, HP, HBE⟩ := hrel
        have hsz := HBE.out.size
        have htl : ts.length ≤ nS := by rw [htk.out]; exact hk
        by_cases hlt : k < nS
        · obtain ⟨bb, off, rfl, hc⟩ := (HS.out.below HBE.out).at_ (by omega)
          obtain ⟨c0, c1⟩ := hc k hlt
          have hll : k < l.length := by rw [HS.out.len]; exact hlt
          have hp := HP.out
          rw [apB_drop n e l k hll, Bool.and_eq_true] at hp
          obtain ⟨hp1, hp2⟩ := hp
          have hp3 := (ly_iff _ _ _).1 hp1
          have hcc := HC.out
          rw [cutL_drop b e l k hll] at hcc
          clear hc HP HC hp1
          generalize l.getD k (0, 0) = p at *
          obtain ⟨x, y⟩ := p
          simp only at c0 c1 hp3 hp2 hcc
          obtain ⟨X, rfl⟩ : ∃ X : Nat, x = X := ⟨x.toNat, by omega⟩
          obtain ⟨Y, rfl⟩ : ∃ Y : Nat, y = Y := ⟨y.toNat, by omega⟩
          rw [show ((X : Int)).toNat = X from by omega, show ((Y : Int)).toNat = Y from by omega] at hcc
          have hX1 : e ≤ X := by omega
          have hX2 : X ≤ n := by omega
          have hX3 : (X : Int) ≤ (cap : Int) := by omega
          have CL3 : Hid (∀ W, Below w.heap.size w W → BS W (if cap = e then ao else ao.map (fun x => x.add e)) (X - e) (cap - e) ((b.drop e).take (X - e))) := fun W hb => by
            have := (HB.out.below hb).sub e X (by omega) (by omega)
            exact this
          have HC2 : Hid (ts.map Prod.snd ++ (b.drop e).take (X - e) :: cutL b Y (l.drop (k + 1)) = cutL b 0 l) := hcc
          have HP2 : Hid (apB n Y (l.drop (k + 1)) = true) := hp2
          clear hcc hp2
          have hXe : (X - e : Nat) ≤ 1048576 := by omega
          have HW2 : Hid (Below w.heap.size w ((wr.alloc (.cells #[.int .i64 X, .int .i64 Y] 54)).alloc (.cells #[] 5))) := (HBE.out.alloc hsz _).alloc (by simp; omega) _
          have HO2 : Hid (OB ((wr.alloc (.cells #[.int .i64 X, .int .i64 Y] 54)).alloc (.cells #[] 5)) (wr.heap.size + 1) (.slice (some ⟨wr.heap.size + 1, 0, none⟩) 0 0) []) := by
            have := World.ownsRow_lit (base := wr.heap.size + 1) (e := 5) (size := 1) (wr.alloc (.cells #[.int .i64 X, .int .i64 Y] 54)) #[] 0 (by simp) (by decide) rfl
            rw [World.size_alloc] at this
            exact this
          go_wp2_with (at_builtin; refine wpList_app rfl _ _ rfl (wr.heap.size + 1) _ [] rfl HO2.out _ _ _ _ rfl (CL3.out _ HW2.out) (by simp; omega) (by simp) ?_)
          all_goals
            first | (have hce : cap = e := (by assumption); have hce2 := hce.symm; clear hce; subst hce2) | skip
            intro cv w1 hO0 hgr1 _
            have hb1 : Below (wr.heap.size + 1) (wr.alloc (.cells #[.int .i64 X, .int .i64 Y] 54)) w1 := Below.grown ((Below.refl _ _).alloc (by simp) _) hgr1 (by simp) (fun k e => by cases e; simp)
            rw [show wr.heap.size + 1 = (wr.alloc (.cells #[.int .i64 X, .int .i64 Y] 54)).heap.size from by simp] at hb1
            have hO : OB w1 (wr.alloc (.cells #[.int .i64 X, .int .i64 Y] 54)).heap.size cv ((b.drop e).take (X - e)) := by rw [World.size_alloc]; exact hO0
            have hsz1 := hb1.size
            simp only [World.size_alloc] at hsz1
            have k1 : ∀ o, (w1.alloc o).cell? ⟨wr.heap.size, 1, none⟩ = some (.int .i64 Y) := fun o => by
              have h1 := (hb1.block wr.heap.size (by simp)).trans (heap_alloc_new wr _)
              simp [World.cell?, Below.heap_alloc w1 o wr.heap.size (by omega), h1]
            have HO : Hid (OB w1 w.heap.size cv ((b.drop e).take (X - e))) := OB.mono hO (by simp; omega)
            have HR1 : Hid (RB w1 w.heap.size u9 ts) := (HR.out.alloc _).below hb1
            have HBE1 : Hid (Below w.heap.size w w1) := (HBE.out.alloc hsz _).trans (hb1.mono (by simp; omega))
            have HVB : Hid (∀ k, u9.ownBlock = some k → w.heap.size ≤ k) := fun k e => (HR1.out.row.lt k e).1
            have HVN : Hid (some wr.heap.size ≠ u9.ownBlock) := fun e => by have := (HR.out.row.lt _ e.symm).2; omega
            obtain ⟨ca, cl, cc, rfl⟩ : ∃ a m c, cv = Value.slice a m c := by obtain ⟨a, c, e⟩ := own_slice hO; exact ⟨a, _, c, e⟩
            clear CL3 hO hO0 hgr1 hb1 HR HBE HW2 HO2
            go_wp2_with (at_builtin; refine wpList_append_lies _ rfl _ _ 48 rfl w.heap.size 22 i0 (.slice none 0 0) 1 24 Try.underlying48 hi hz0 hz1 hz2 rfl (by decide) _ ts.length _ rfl (HR1.out.row.alloc _) ⟨w1.heap.size, 0, none⟩ 1 1 [.slice ca cl cc] rfl rfl (one_new w1 _) HO.out.one (by decide) (by unfold maxLen; omega) (by omega) (by simp; omega) w1.heap.size.succ (by simp) ?_)
            intro g c5 w5 hown hgrow hat hlt5
            have km : w5.cell? ⟨wr.heap.size, 1, none⟩ = some (.int .i64 Y) := hgrow.cell (k1 _) HVN.out
            have R1 : Hid (RB w5 w.heap.size (.slice (some ⟨g, 0, none⟩) (ts.length + 1) c5) (ts ++ [(.slice ca cl cc, (b.drop e).take (X - e))])) := (HR1.out.alloc _).snoc _ _ hown hgrow (HO.out.below ((Below.refl _ _).alloc (Nat.le_refl _) _))
            have R2 : Hid (Below w.heap.size w w5) := Below.grown (HBE1.out.alloc (by omega) _) hgrow (by simp; omega) HVB.out
            have R3 : Hid ((ts ++ [((.slice ca cl cc : Value), (b.drop e).take (X - e))]).map Prod.snd ++ cutL b Y (l.drop (k + 1)) = cutL b 0 l) := by rw [List.map_append, List.append_assoc]; exact HC2.out
            clear hown hgrow hat hlt5 HR1 HBE1 HO k1 HC2
            go_wp2
            go_roundw
            case rel => exact ⟨k + 1, Y, _, by omega, by omega, by show (ts ++ [_]).length = k + 1; rw [List.length_append, htk.out]; rfl, by go_num, by go_num, R1, R3, HP2, R2⟩
            case measure => simp [intOf]; omega
        · obtain rfl : k = nS := by omega
          have hcc := HC.out
          rw [List.drop_eq_nil_of_le (by rw [HS.out.len]; exact Nat.le_refl _)] at hcc
          have HC2 : Hid (ts.map Prod.snd ++ [b.drop e] = cutL b 0 l) := hcc
          have CL3 : Hid (∀ W, Below w.heap.size w W → BS W (if cap = e then ao else ao.map (fun x => x.add e)) (n - e) (cap - e) (b.drop e)) := fun W hb => by
            have := (HB.out.below hb).sub e n (by omega) (by omega)
            rw [List.take_of_length_le (by rw [List.length_drop, HB.out.len]; exact Nat.le_refl _)] at this
            exact this
          clear hcc HC HP
          have HW2 : Hid (Below w.heap.size w (wr.alloc (.cells #[] 5))) := HBE.out.alloc hsz _
          have HO2 : Hid (OB (wr.alloc (.cells #[] 5)) wr.heap.size (.slice (some ⟨wr.heap.size, 0, none⟩) 0 0) []) := World.ownsRow_lit (base := wr.heap.size) (e := 5) (size := 1) wr #[] 0 (Nat.le_refl _) (by decide) rfl
          go_wp2_with (at_builtin; refine wpList_app rfl _ _ rfl wr.heap.size _ [] rfl HO2.out _ _ _ _ rfl (CL3.out _ HW2.out) (by simp; omega) (by simp) ?_)
          all_goals
            first | (have hce : cap = e := (by assumption); have hce2 := hce.symm; clear hce; subst hce2) | skip
            intro cv w1 hO0 hgr1 _
            have hb1 : Below wr.heap.size wr w1 := Below.grown ((Below.refl _ _).alloc (Nat.le_refl _) _) hgr1 (by simp) (fun k e => by cases e; simp)
            have hO : OB w1 wr.heap.size cv (b.drop e) := hO0
            have hsz1 := hb1.size
            have HO : Hid (OB w1 w.heap.size cv (b.drop e)) := OB.mono hO hsz
            have HR1 : Hid (RB w1 w.heap.size u9 ts) := HR.out.below hb1
            have HBE1 : Hid (Below w.heap.size w w1) := HBE.out.trans (hb1.mono hsz)
            have HVB : Hid (∀ k, u9.ownBlock = some k → w.heap.size ≤ k) := fun k e => (HR1.out.row.lt k e).1
            obtain ⟨ca, cl, cc, rfl⟩ : ∃ a m c, cv = Value.slice a m c := by obtain ⟨a, c, e⟩ := own_slice hO; exact ⟨a, _, c, e⟩
            clear CL3 hO hO0 hgr1 hb1 HR HBE HW2 HO2
            go_wp2_with (at_builtin; refine wpList_append_lies _ rfl _ _ 48 rfl w.heap.size 22 i0 (.slice none 0 0) 1 24 Try.underlying48 hi hz0 hz1 hz2 rfl (by decide) _ ts.length _ rfl (HR1.out.row.alloc _) ⟨w1.heap.size, 0, none⟩ 1 1 [.slice ca cl cc] rfl rfl (one_new w1 _) HO.out.one (by decide) (by unfold maxLen; omega) (by omega) (by simp; omega) w1.heap.size.succ (by simp) ?_)
            intro g c5 w5 hown hgrow hat hlt5
            have R1 : Hid (RB w5 w.heap.size (.slice (some ⟨g, 0, none⟩) (ts.length + 1) c5) (ts ++ [(.slice ca cl cc, b.drop e)])) := (HR1.out.alloc _).snoc _ _ hown hgrow (HO.out.below ((Below.refl _ _).alloc (Nat.le_refl _) _))
            have R2 : Hid (Below w.heap.size w w5) := Below.grown (HBE1.out.alloc (by omega) _) hgrow (by simp; omega) HVB.out
            have R3 : Hid ((ts ++ [((.slice ca cl cc : Value), b.drop e)]).map Prod.snd = cutL b 0 l) := by rw [List.map_append]; exact HC2.out
            clear hown hgrow hat hlt5 HR1 HBE1 HO HC2
            go_wp2
            go_ret2
            exact ⟨_, _, rfl, R1.out, R3.out, R2.out⟩
end Go.Proofs.Ytfnndnlhdfjggaa.edt
