/- The walk of EditRebuilds. -/
import Derived.Test.YtfnndnlhdfjggaaEdtLaws
import Derived.Deep.RegionHeld3
set_option linter.unusedVariables false
set_option linter.unusedSimpArgs false
namespace Go.Proofs.Ytfnndnlhdfjggaa.edt
open Go.RowKit

/-- append(dst, src...) at a step of a drawn region. -/
theorem step_app {w : World} {ops : Array Oper} {o : Oper} {a : Act} {K : Act → World → Prop} {Q : Exit → Act → World → Prop} {E : Prop} (hgd : o.guard = none) (s x : Operand)
    (ho : o.op = .call { callee := .builtin .append, args := #[s, x], argTypes := #[22, 22] })
    (B : Nat) (v : Value) (l : List Int) (hs : a.eval s = v) (hown : OB w B v l)
    (ao : Option Addr) (n c : Nat) (r : List Int) (hx : a.eval x = .slice ao n c) (hr : BS w ao n c r)
    (hlen : l.length + n ≤ 140737488355328) (hbase : B ≤ w.heap.size)
    (h : ∀ v' w', OB w' B v' (l ++ r) → w.grownBy w' v.ownBlock → K (a.put o.dst v') w') :
    if Region.wanted o (yielded ops a.tmps) = true then Oper.wp Try.prog o a w K Q else E := by
  obtain ⟨i0, hi, hz0, hz1, hz2⟩ := info_parts infoByte
  have hw : Region.wanted o (yielded ops a.tmps) = true := by simp [Region.wanted, hgd]
  rw [if_pos hw]
  have hown' : w.ownsRow B 5 1 v l.length (l.map (Value.int .u8)) := hown
  cases ao with
  | none =>
    obtain ⟨rfl, rfl, rfl⟩ := hr.none_
    have hrun := run_append_owned_none (P := Try.prog) (w := w) B 22 o.type 5 i0 1 Try.underlying22 hi v l.length _ hown'
    unfold Oper.wp
    simp [execOp, ho, resolve, invoke, builtin, hs, hx, hrun, Result.andThen]
    exact h v w (by rw [List.append_nil]; exact hown) ⟨rfl, rfl, rfl, Nat.le_refl _, fun _ _ _ => rfl⟩
  | some ad =>
    refine wp_append_own w s x 22 ho B 5 i0 (.int .u8 0) 1 1 Try.underlying22 hi hz0 hz1 hz2 rfl (by decide) v l.length _ hs hown' ad n c (r.map (Value.int .u8)) hx (by simpa using hr.len) hr.news (u8_one r) (by unfold maxLen; omega) (by omega) hbase (fun v' w' h2 h3 _ => h v' w' ?_ h3)
    unfold OB
    rw [List.length_append, hr.len, List.map_append]
    exact h2
theorem cutL_at (b : List Int) : ∀ (l : List Sp) (e : Nat), (cutL b e l).getD 0 [] = match l with | [] => b.drop e | p :: _ => (b.drop e).take (p.1.toNat - e)
  | [], e => rfl
  | p :: r, e => rfl
theorem glue (b : List Int) (e x y : Nat) (h1 : e ≤ x) (h2 : x ≤ y) : b.take e ++ (b.drop e).take (x - e) ++ (b.drop x).take (y - x) = b.take y := by
  have g : ∀ (p q : Nat), p ≤ q → b.take p ++ (b.drop p).take (q - p) = b.take q := fun p q h => by
    have e1 : q = p + (q - p) := by omega
    conv => rhs; rw [e1, List.take_add]
  rw [g e x h1, g x y h2]

theorem rebuilds_no (ao : Option Addr) (n cap : Nat) (b : List Int) (aS : Option Addr) (nS cS : Nat) (l : List Sp) (w : World) (hB : BS w ao n cap b) (hS : SS w aS nS cS l) (h : apB n 0 l = false) (hn : n ≤ 1048576) (hnS : nS ≤ 1048576) :
    Calls Try.prog 6 #[.slice ao n cap, .slice aS nS cS] w fun e w' => e = .returned (.bool true) ∧ Below w.heap.size w w' := by
  have S1 := split_no ao n cap aS nS cS l w hS h
  have HB : Hid (BS w ao n cap b) := hB
  have HS : Hid (SS w aS nS cS l) := hS
  have HA : Hid (apB n 0 l = false) := h
  clear hB hS h
  go_enter Try.func6, Try.ntmps6
  go_wp2_with fail
  refine S1.mono ?_
  rintro e w2 ⟨rfl, hb2⟩
  have S2 := rsplit_no ao n cap b aS nS cS l w2 (HB.out.below hb2) (HS.out.below hb2) HA.out hn hnS
  clear S1
  go_wp2_with fail
  refine S2.mono ?_
  rintro e w3 ⟨rfl, hb3⟩
  have hb3' := hb2.trans (hb3.mono hb2.size)
  have AW := awake_any w3
  clear S2 hb3 hb2
  go_wp2_with (go_at_call 14; refine AW.mono ?_; rintro e w' ⟨rfl, hbel⟩)
  go_ret
  exact ⟨rfl, hb3'.trans (Below.mono (by assumption) hb3'.size)⟩

set_option maxHeartbeats 4000000 in
set_option maxRecDepth 100000 in
theorem rebuilds_yes (ao : Option Addr) (n cap : Nat) (b : List Int) (aS : Option Addr) (nS cS : Nat) (l : List Sp) (w : World) (hB : BS w ao n cap b) (hS : SS w aS nS cS l) (h : apB n 0 l = true) (hn : n ≤ 1048576) (hnS : nS ≤ 1048576) :
    Calls Try.prog 6 #[.slice ao n cap, .slice aS nS cS] w fun e w' => e = .returned (.bool true) ∧ Below w.heap.size w w' := by
  have S1 := split_yes ao n cap b aS nS cS l w hB hS h hn hnS
  have hnc := hB.nc
  have hcm := hB.cm
  have hSn := hS.nc
  have hSm := hS.cm
  have HB : Hid (BS w ao n cap b) := hB
  have HS : Hid (SS w aS nS cS l) := hS
  have HA : Hid (apB n 0 l = true) := h
  have HBy : Hid (Byt b) := mem_range hB.rg
  clear hB hS h
  go_enter Try.func6, Try.ntmps6
  go_wp2_with fail
  refine S1.mono ?_
  rintro e w2 ⟨v1, t1, rfl, hR1, he1, hb2⟩
  have hl1 : t1.length = nS + 1 := by
    have h1 := congrArg List.length he1
    rw [List.length_map, cutL_length, HS.out.len] at h1
    exact h1
  obtain ⟨xa, xc, rfl, T1⟩ := hR1.tv (fun q hq => cutL_byt b HBy.out l 0 q.2 (by rw [← he1]; exact List.mem_map.2 ⟨q, hq, rfl⟩))
  rw [he1, hl1] at T1
  rw [hl1]
  have HT : Hid (TV w2 xa (nS + 1) xc (cutL b 0 l)) := T1
  have hxc := T1.nc
  have hxm := T1.cm
  obtain ⟨g, off, rfl, hc⟩ := T1.at_ (by omega)
  obtain ⟨a0, m0, c0, p0, q0⟩ := hc 0 (by omega)
  have HBE2 : Hid (Below w.heap.size w w2) := hb2
  have hz2 := hb2.size
  have hm0 : m0 ≤ 1048576 := by
    have h1 := q0.len
    have h2 : ((cutL b 0 l).getD 0 []).length ≤ n := by
      rw [cutL_at]
      cases l with
      | nil => simp [HB.out.len]
      | cons p r => simp only [List.length_take, List.length_drop, HB.out.len]; omega
    omega
  have CL := clone_any a0 m0 c0 _ w2 q0 (by omega)
  have hne : ((nS : Int) + 1 != (nS : Int) + 1) = false := by simp
  rw [Nat.add_zero] at p0
  clear S1 hR1 he1 hb2 T1 hc q0
  go_wp2_with fail
  refine CL.mono ?_
  rintro r w3 ⟨ov, rfl, hO, hb3⟩
  have HO : Hid (OB w3 w2.heap.size ov ((cutL b 0 l).getD 0 [])) := hO
  have HBE3 : Hid (Below w2.heap.size w2 w3) := hb3
  clear CL hO hb3 p0
  go_wp2
  go_loopw [9, 49] (fun v i wr => ∃ (k e : Nat), k ≤ nS ∧ e ≤ n ∧ i = .int .i64 k ∧ Hid (OB wr w2.heap.size v (b.take e ++ (cutL b e (l.drop k)).getD 0 [])) ∧ Hid ((cutL b 0 l).drop k = cutL b e (l.drop k)) ∧ Hid (apB n e (l.drop k) = true) ∧ Hid (Below w2.heap.size w2 wr)) (fun _ i _ => nS - (intOf i).toNat)
  case atStart => exact ⟨0, 0, Nat.zero_le _, Nat.zero_le _, rfl, by rw [List.take_zero, List.nil_append, List.drop_zero]; exact HO.out, rfl, HA.out, HBE3⟩
  case round =>
    clear HO HBE3
    obtain ⟨k, e, hk, he, rfl, HO, HC, HP, HBE⟩ := hrel
    have hsz := HBE.out.size
    by_cases hlt : k < nS
    · have HW : Hid (Below w.heap.size w wr) := HBE2.out.trans (HBE.out.mono hz2)
      obtain ⟨bb, off1, rfl, hc⟩ := (HS.out.below HW.out).at_ (by omega)
      obtain ⟨c0', c1'⟩ := hc k hlt
      have hll : k < l.length := by rw [HS.out.len]; exact hlt
      have hp := HP.out
      rw [apB_drop n e l k hll, Bool.and_eq_true] at hp
      obtain ⟨hp1, hp2⟩ := hp
      have hp3 := (ly_iff _ _ _).1 hp1
      have hcc := HC.out
      rw [cutL_drop b e l k hll] at hcc
      have ho := HO.out
      rw [cutL_drop b e l k hll, List.getD_cons_zero] at ho
      have hd2 : (cutL b 0 l).drop (k + 1) = cutL b (l.getD k (0, 0)).2.toNat (l.drop (k + 1)) := by
        rw [show (cutL b 0 l).drop (k + 1) = ((cutL b 0 l).drop k).drop 1 from by rw [List.drop_drop], hcc]; rfl
      obtain ⟨_, _, e0, hc9⟩ := HT.out.at_ (by omega)
      cases e0
      obtain ⟨xa, xm, xd, hcx2, hBx⟩ := hc9 (k + 1) (by omega)
      have hcx : wr.cell? ⟨g, off + (k + 1), none⟩ = some (.slice xa xm xd) := (HBE.out.cell (World.block_lt_of_cell? w2 _ hcx2)).trans hcx2
      have hgl := World.block_lt_of_cell? w2 _ hcx2
      simp only at hgl
      have hgx : (cutL b 0 l).getD (k + 1) [] = (cutL b (l.getD k (0, 0)).2.toNat (l.drop (k + 1))).getD 0 [] := by rw [← hd2]; simp [List.getD_eq_getElem?_getD, List.getElem?_drop]
      rw [hgx] at hBx
      clear hc HP HC hp1 hcc hc9 HO hgx
      generalize l.getD k (0, 0) = p at *
      obtain ⟨x, y⟩ := p
      simp only at c0' c1' hp3 hp2 hd2 ho hBx
      obtain ⟨X, rfl⟩ : ∃ X : Nat, x = X := ⟨x.toNat, by omega⟩
      obtain ⟨Y, rfl⟩ : ∃ Y : Nat, y = Y := ⟨y.toNat, by omega⟩
      rw [show ((X : Int)).toNat = X from by omega] at ho
      rw [show ((Y : Int)).toNat = Y from by omega] at hd2 hBx
      have hX1 : e ≤ X := by omega
      have hXY : X ≤ Y := by omega
      have hYn : Y ≤ n := by omega
      have hYc : (Y : Int) ≤ (cap : Int) := by omega
      have hk2 : (k : Int) + 1 < (nS : Int) + 1 := by omega
      have hwk : IntKind.i64.wrap ((k : Int) + 1) = (k : Int) + 1 := by rw [IntKind.wrap_i64]; omega
      have hk3 : (0 : Int) ≤ (k : Int) + 1 := by omega
      have hk4 : ((k : Int) + 1).toNat = k + 1 := by omega
      have HBb : Hid (∀ W, Below w.heap.size w W → BS W (if cap = X then ao else ao.map (fun x => x.add X)) (Y - X) (cap - X) ((b.drop X).take (Y - X))) := fun W hb => (HB.out.below hb).sub X Y hXY hYn
      have HBx : Hid (∀ W, Below w2.heap.size w2 W → BS W xa xm xd ((cutL b Y (l.drop (k + 1))).getD 0 [])) := fun W hb => hBx.below hb
      have hxm9 : xm ≤ n := by
        have h1 := hBx.len
        have h2 : ((cutL b Y (l.drop (k + 1))).getD 0 []).length ≤ n := by
          rw [cutL_at]
          cases l.drop (k + 1) with
          | nil => simp [HB.out.len]
          | cons p r => simp only [List.length_take, List.length_drop, HB.out.len]; omega
        omega
      have hbl : b.length = n := HB.out.len
      have hol : (b.take e ++ (b.drop e).take (X - e)).length ≤ n := by rw [List.length_append, List.length_take, List.length_take, List.length_drop]; omega
      have HOO : Hid (OB wr w2.heap.size u9 (b.take e ++ (b.drop e).take (X - e))) := ho
      have HD2 : Hid ((cutL b 0 l).drop (k + 1) = cutL b Y (l.drop (k + 1))) := hd2
      have HP2 : Hid (apB n Y (l.drop (k + 1)) = true) := hp2
      clear hd2 hp2 ho hBx hbl hcx2
      go_wp2
      have HO0 : Hid (OB (wr.alloc (.cells #[.int .i64 X, .int .i64 Y] 54)).drew w2.heap.size u9 (b.take e ++ (b.drop e).take (X - e))) := (HOO.out.below ((Below.refl _ _).alloc (Nat.le_refl _) _)).drew
      have HB0 : Hid (Below w2.heap.size w2 (wr.alloc (.cells #[.int .i64 X, .int .i64 Y] 54)).drew) := (HBE.out.alloc hsz _).drew
      have HS0 : Hid ((wr.alloc (.cells #[.int .i64 X, .int .i64 Y] 54)).drew.heap[wr.heap.size]? = some (.cells #[.int .i64 X, .int .i64 Y] 54 (0, 0))) := heap_alloc_new wr _
      have HX0 : Hid ((wr.alloc (.cells #[.int .i64 X, .int .i64 Y] 54)).drew.cell? ⟨g, off + (k + 1), none⟩ = some (.slice xa xm xd)) := by
        show (wr.alloc (.cells #[.int .i64 X, .int .i64 Y] 54)).cell? ⟨g, off + (k + 1), none⟩ = _
        rw [World.cell?_of_block (Below.heap_alloc wr _ g (by omega))]; exact hcx
      have hz0 : w2.heap.size ≤ (wr.alloc (.cells #[.int .i64 X, .int .i64 Y] 54)).drew.heap.size := HB0.out.size
      refine wp_region_noPanic ?_
      refine wp_region_held_drew (S := fun w' => w'.cell? ⟨wr.heap.size, 0, none⟩ = some (.int .i64 X) ∧ w'.cell? ⟨wr.heap.size, 1, none⟩ = some (.int .i64 Y) ∧ w'.cell? ⟨g, off + (k + 1), none⟩ = some (.slice xa xm xd)) (by kernel_rfl) ?_ (fun hHeld => ?_)
      · exact ⟨(blk2 HS0.out).1.1, (blk2 HS0.out).1.2, HX0.out⟩
      generalize (wr.alloc (.cells #[.int .i64 X, .int .i64 Y] 54)).drew = X0 at *
      clear HOO HBE hcx c0' c1' HW
      refine wpAnyH_take (i := 0) (v := ?_) rfl (by kernel_rfl) (by kernel_rfl) (by kernel_rfl) (fun _ _ _ h => h) (Or.inl ⟨by rfl, ?_⟩) (by assumption) ?_
      rotate_left
      · (intro w' hSw; (try dsimp only at hSw); go_simp; try with_reducible rfl)
      try simp only [Act.put, List.setIfInBounds_toArray, List.set_cons_zero, List.set_cons_succ, List.getElem_toArray, List.getElem_cons_zero, List.getElem_cons_succ]
      refine wpAnyH_take (i := 1) (v := ?_) rfl (by kernel_rfl) (by kernel_rfl) (by kernel_rfl) (fun _ _ _ h => h) (Or.inl ⟨by rfl, ?_⟩) (by assumption) ?_
      rotate_left
      · (intro w' hSw; (try dsimp only at hSw); go_simp; try with_reducible rfl)
      try simp only [Act.put, List.setIfInBounds_toArray, List.set_cons_zero, List.set_cons_succ, List.getElem_toArray, List.getElem_cons_zero, List.getElem_cons_succ]
      refine wpAnyH_take (i := 2) (v := ?_) rfl (by kernel_rfl) (by kernel_rfl) (by kernel_rfl) (fun _ _ _ h => h) (Or.inl ⟨by rfl, ?_⟩) (by assumption) ?_
      rotate_left
      · (intro w' hSw; (try dsimp only at hSw); go_simp; try with_reducible rfl)
      try simp only [Act.put, List.setIfInBounds_toArray, List.set_cons_zero, List.set_cons_succ, List.getElem_toArray, List.getElem_cons_zero, List.getElem_cons_succ]
      refine wpAnyH_take (i := 3) (v := ?_) rfl (by kernel_rfl) (by kernel_rfl) (by kernel_rfl) (fun _ _ _ h => h) (Or.inl ⟨by rfl, ?_⟩) (by assumption) ?_
      rotate_left
      · (intro w' hSw; (try dsimp only at hSw); go_simp; try with_reducible rfl)
      try simp only [Act.put, List.setIfInBounds_toArray, List.set_cons_zero, List.set_cons_succ, List.getElem_toArray, List.getElem_cons_zero, List.getElem_cons_succ]
      refine wpAnyH_take (i := 4) (v := ?_) rfl (by kernel_rfl) (by kernel_rfl) (by kernel_rfl) (fun _ _ _ h => h) (Or.inl ⟨by rfl, ?_⟩) (by assumption) ?_
      rotate_left
      · (intro w' hSw; (try dsimp only at hSw); go_simp; try with_reducible rfl)
      try simp only [Act.put, List.setIfInBounds_toArray, List.set_cons_zero, List.set_cons_succ, List.getElem_toArray, List.getElem_cons_zero, List.getElem_cons_succ]
      refine wpAnyH_take (i := 5) (v := ?_) rfl (by kernel_rfl) (by kernel_rfl) (by kernel_rfl) (fun _ _ _ h => h) (Or.inl ⟨by rfl, ?_⟩) (by assumption) ?_
      rotate_left
      · (intro w' hSw; (try dsimp only at hSw); go_simp; try with_reducible rfl)
      try simp only [Act.put, List.setIfInBounds_toArray, List.set_cons_zero, List.set_cons_succ, List.getElem_toArray, List.getElem_cons_zero, List.getElem_cons_succ]
      refine wpAnyH_take (i := 6) (v := ?_) rfl (by kernel_rfl) (by kernel_rfl) (by kernel_rfl) (fun _ _ _ h => h) (Or.inl ⟨by rfl, ?_⟩) (by assumption) ?_
      rotate_left
      · (intro w' hSw; (try dsimp only at hSw); go_simp; try with_reducible rfl)
      try simp only [Act.put, List.setIfInBounds_toArray, List.set_cons_zero, List.set_cons_succ, List.getElem_toArray, List.getElem_cons_zero, List.getElem_cons_succ]
      refine wpAnyH_take (i := 8) (v := ?_) rfl (by kernel_rfl) (by kernel_rfl) (by kernel_rfl) (fun _ _ _ h => h) (Or.inl ⟨by rfl, ?_⟩) (by assumption) ?_
      rotate_left
      · (intro w' hSw; (try dsimp only at hSw); go_simp; try with_reducible rfl)
      try simp only [Act.put, List.setIfInBounds_toArray, List.set_cons_zero, List.set_cons_succ, List.getElem_toArray, List.getElem_cons_zero, List.getElem_cons_succ]
      refine wpAnyH_take (i := 9) (v := ?_) rfl (by kernel_rfl) (by kernel_rfl) (by kernel_rfl) (fun _ _ _ h => h) (Or.inl ⟨by rfl, ?_⟩) (by assumption) ?_
      rotate_left
      · (intro w' hSw; (try dsimp only at hSw); go_simp; try with_reducible rfl)
      try simp only [Act.put, List.setIfInBounds_toArray, List.set_cons_zero, List.set_cons_succ, List.getElem_toArray, List.getElem_cons_zero, List.getElem_cons_succ]
      refine wpAnyH_take (i := 10) (v := ?_) rfl (by kernel_rfl) (by kernel_rfl) (by kernel_rfl) (fun _ _ _ h => h) (Or.inl ⟨by rfl, ?_⟩) (by assumption) ?_
      rotate_left
      · (intro w' hSw; (try dsimp only at hSw); go_simp; try with_reducible rfl)
      try simp only [Act.put, List.setIfInBounds_toArray, List.set_cons_zero, List.set_cons_succ, List.getElem_toArray, List.getElem_cons_zero, List.getElem_cons_succ]
      refine wpAnyH_take (i := 11) (v := ?_) rfl (by kernel_rfl) (by kernel_rfl) (by kernel_rfl) (fun _ _ _ h => h) (Or.inl ⟨by rfl, ?_⟩) (by assumption) ?_
      rotate_left
      · (intro w' hSw; (try dsimp only at hSw); go_simp; try with_reducible rfl)
      try simp only [Act.put, List.setIfInBounds_toArray, List.set_cons_zero, List.set_cons_succ, List.getElem_toArray, List.getElem_cons_zero, List.getElem_cons_succ]
      refine wpAnyH_take (i := 12) (v := ?_) rfl (by kernel_rfl) (by kernel_rfl) (by kernel_rfl) (fun _ _ _ h => h) (Or.inl ⟨by rfl, ?_⟩) (by assumption) ?_
      rotate_left
      · (intro w' hSw; (try dsimp only at hSw); go_simp; try with_reducible rfl)
      try simp only [Act.put, List.setIfInBounds_toArray, List.set_cons_zero, List.set_cons_succ, List.getElem_toArray, List.getElem_cons_zero, List.getElem_cons_succ]
      refine wpAnyH_ready (rs := [7]) (by kernel_rfl) (by simp) ?_
      refine AllReadyH.cons rfl (fun K hK => ?_) AllReadyH.nil
      refine step_app rfl _ _ rfl w2.heap.size u9 _ rfl HO0.out _ _ _ _ rfl (HBb.out _ (HBE2.out.trans (HB0.out.mono hz2))) (by omega) hz0 ?_
      intro v2 X2 ho2 hgr2
      have HO2 : Hid (OB X2 w2.heap.size v2 (b.take e ++ (b.drop e).take (X - e) ++ (b.drop X).take (Y - X))) := ho2
      have HB2 : Hid (Below w2.heap.size w2 X2) := Below.grown HB0.out hgr2 hz0 (fun k e9 => (World.ownsRow.lt HO0.out _ e9).1)
      have hz3 := HB2.out.size
      have HS2 : Hid (X2.heap[wr.heap.size]? = some (.cells #[.int .i64 X, .int .i64 Y] 54 (0, 0))) := (hgr2.block _ (Array.getElem?_eq_some_iff.1 HS0.out).1 (fun e9 => row_ne HO0.out HS0.out (by decide) e9.symm)).trans HS0.out
      have HX2 : Hid (X2.cell? ⟨g, off + (k + 1), none⟩ = some (.slice xa xm xd)) := (HB2.out.cell (by simpa using hgl)).trans ((HB0.out.cell (by simpa using hgl)).symm.trans HX0.out)
      refine hK.out _ _ ?_ (fun hHeld => ?_)
      · exact ⟨(blk2 HS2.out).1.1, (blk2 HS2.out).1.2, HX2.out⟩
      clear hK K
      clear ho2 hgr2 HS0 HX0 HO0 HB0
      try simp only [Act.put, List.setIfInBounds_toArray, List.set_cons_zero, List.set_cons_succ, List.getElem_toArray, List.getElem_cons_zero, List.getElem_cons_succ]
      refine wpAnyH_ready (rs := [13]) (by kernel_rfl) (by simp) ?_
      refine AllReadyH.cons rfl (fun K hK => ?_) AllReadyH.nil
      refine step_app rfl _ _ rfl w2.heap.size v2 _ rfl HO2.out _ _ _ _ rfl (HBx.out _ HB2.out) (by rw [List.length_append, List.length_take (i := Y - X)]; omega) hz3 ?_
      intro v3 X3 ho3 hgr3
      have HO3 : Hid (OB X3 w2.heap.size v3 (b.take Y ++ (cutL b Y (l.drop (k + 1))).getD 0 [])) := by rw [← glue b e X Y hX1 hXY]; exact ho3
      have HB3 : Hid (Below w2.heap.size w2 X3) := Below.grown HB2.out hgr3 hz3 (fun k e9 => (World.ownsRow.lt HO2.out _ e9).1)
      have HS3 : Hid (X3.heap[wr.heap.size]? = some (.cells #[.int .i64 X, .int .i64 Y] 54 (0, 0))) := (hgr3.block _ (Array.getElem?_eq_some_iff.1 HS2.out).1 (fun e9 => row_ne HO2.out HS2.out (by decide) e9.symm)).trans HS2.out
      have HX3 : Hid (X3.cell? ⟨g, off + (k + 1), none⟩ = some (.slice xa xm xd)) := (HB3.out.cell (by simpa using hgl)).trans ((HB2.out.cell (by simpa using hgl)).symm.trans HX2.out)
      refine hK.out _ _ ?_ (fun hHeld => ?_)
      · exact ⟨(blk2 HS3.out).1.1, (blk2 HS3.out).1.2, HX3.out⟩
      clear hK K
      clear ho3 hgr3 HS2 HX2 HO2 HB2
      try simp only [Act.put, List.setIfInBounds_toArray, List.set_cons_zero, List.set_cons_succ, List.getElem_toArray, List.getElem_cons_zero, List.getElem_cons_succ]
      refine wpAnyH_take (i := 14) (v := ?_) rfl (by kernel_rfl) (by kernel_rfl) (by kernel_rfl) (fun _ _ _ h => h) (Or.inl ⟨by rfl, ?_⟩) (by assumption) ?_
      rotate_left
      · (intro w' hSw; (try dsimp only at hSw); go_simp; try with_reducible rfl)
      try simp only [Act.put, List.setIfInBounds_toArray, List.set_cons_zero, List.set_cons_succ, List.getElem_toArray, List.getElem_cons_zero, List.getElem_cons_succ]
      refine wpAnyH_done (by kernel_rfl) ?_ _
      refine NoPanic.normal ?_
      go_wp2
      go_roundw
      case rel => exact ⟨k + 1, Y, by omega, by omega, by go_num, HO3, HD2, HP2, HB3⟩
      case measure => simp [intOf]; omega
    · obtain rfl : k = nS := by omega
      have hO := HO.out
      rw [List.drop_eq_nil_of_le (by rw [HS.out.len]; exact Nat.le_refl _), cutL_at] at hO
      simp only at hO
      rw [List.take_append_drop] at hO
      obtain ⟨oa, oc, rfl, hOB⟩ := hO.bs HB.out.rg
      rw [HB.out.len] at hOB ⊢
      have HW : Hid (Below w.heap.size w wr) := HBE2.out.trans (HBE.out.mono hz2)
      have EQ := beq_same _ _ _ wr hOB.bts (HB.out.below HW.out).bts
      clear hO hOB HO HC HP
      go_wp2_with (go_at_call 12; refine EQ.mono ?_; rintro e w' ⟨rfl, hw⟩; subst hw)
      go_ret
      exact ⟨rfl, HW.out⟩
theorem rebuilds_walk (ao : Option Addr) (n cap : Nat) (b : List Int) (aS : Option Addr) (nS cS : Nat) (l : List Sp) (w : World) (hB : BS w ao n cap b) (hS : SS w aS nS cS l) (hn : n ≤ 1048576) (hnS : nS ≤ 1048576) :
    Calls Try.prog 6 #[.slice ao n cap, .slice aS nS cS] w fun e w' => e = .returned (.bool true) ∧ Below w.heap.size w w' := by
  cases h : apB n 0 l with
  | false => exact rebuilds_no ao n cap b aS nS cS l w hB hS h hn hnS
  | true => exact rebuilds_yes ao n cap b aS nS cS l w hB hS h hn hnS
end Go.Proofs.Ytfnndnlhdfjggaa.edt
