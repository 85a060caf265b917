/- The document's Rebuilt. -/
import Derived.Test.YtpdkdfgcnhcmkaaAudReb
import Derived.Deep.RegionHeld3
set_option linter.unusedVariables false
set_option linter.unusedSimpArgs false
namespace Go.Proofs.Ytpdkdfgcnhcmkaa.aud
open Go.RowKit
open Go.Proofs.Ytpdkdfgcnhcmkaa.edt

theorem blk2 {w : World} {g : Nat} {x y : Value} {t : TypeId} (h : w.heap[g]? = some (.cells #[x, y] t (0, 0))) : (w.cell? ⟨g, 0, none⟩ = some x ∧ w.cell? ⟨g, 1, none⟩ = some y) := by
  simp [World.cell?, h]
theorem dr_below {B : Nat} {a w : World} (h : Below B a w) : Below B a w.drew := ⟨h.os, h.tape, h.output, h.size, h.block⟩
/-- append(dst, src...) at a step of a drawn region. -/
theorem step_app {w : World} {ops : Array Oper} {o : Oper} {a : Act} {K : Act → World → Prop} {Q : Exit → Act → World → Prop} {E : Prop} (hw : Region.wanted o (yielded ops a.tmps) = true) (s x : Operand)
    (ho : o.op = .call { callee := .builtin .append, args := #[s, x], argTypes := #[25, 25] })
    (B : Nat) (v : Value) (l : List Int) (hs : a.eval s = v) (hown : OB w B v l)
    (ao : Option Addr) (n c : Nat) (r : List Int) (hx : a.eval x = .slice ao n c) (hr : BS w ao n c r)
    (hlen : l.length + n ≤ 140737488355328) (hbase : B ≤ w.heap.size)
    (h : ∀ v' w', OB w' B v' (l ++ r) → w.grownBy w' v.ownBlock → K (a.put o.dst v') w') :
    if Region.wanted o (yielded ops a.tmps) = true then Oper.wp Try.prog o a w K Q else E := by
  obtain ⟨i0, hi, hz0, hz1, hz2⟩ := info_parts infoByte
  rw [if_pos hw]
  have hown' : w.ownsRow B 5 1 v l.length (l.map (Value.int .u8)) := hown
  cases ao with
  | none =>
    obtain ⟨rfl, rfl, rfl⟩ := hr.none_
    have hrun := run_append_owned_none (P := Try.prog) (w := w) B 25 o.type 5 i0 1 Try.underlying25 hi v l.length _ hown'
    unfold Oper.wp
    simp [execOp, ho, resolve, invoke, builtin, hs, hx, hrun, Result.andThen]
    exact h v w (by rw [List.append_nil]; exact hown) ⟨rfl, rfl, rfl, Nat.le_refl _, fun _ _ _ => rfl⟩
  | some ad =>
    refine wp_append_own w s x 25 ho B 5 i0 (.int .u8 0) 1 1 Try.underlying25 hi hz0 hz1 hz2 rfl (by decide) v l.length _ hs hown' ad n c (r.map (Value.int .u8)) hx (by simpa using hr.len) hr.news (u8_one r) (by unfold maxLen; omega) (by omega) hbase (fun v' w' h2 h3 _ => h v' w' ?_ h3)
    unfold OB
    rw [List.length_append, hr.len, List.map_append]
    exact h2
/-- string(bytes) at such a step. -/
theorem step_conv {w : World} {ops : Array Oper} {o : Oper} {a : Act} {K : Act → World → Prop} {Q : Exit → Act → World → Prop} {E : Prop} (hw : Region.wanted o (yielded ops a.tmps) = true) (x : Operand)
    (ho : o.op = .convert 25 9 x) (v : Value) (s : ByteArray) (hx : a.eval x = v) (hr : (convert 25 9 v).run Try.prog w = .ok (.string s) w) (h : K (a.put o.dst (.string s)) w) :
    if Region.wanted o (yielded ops a.tmps) = true then Oper.wp Try.prog o a w K Q else E := by
  rw [if_pos hw]
  unfold Oper.wp
  simp [execOp, ho, hx, hr, Result.andThen]
  exact h
theorem mtL_short (b : List Int) : ∀ (l : List (List Sp)) (i : Nat), ((mtL b l).getD i []).length ≤ b.length
  | [], i => by simp [mtL]
  | m :: r, i => by
    unfold mtL
    split
    · cases i with
      | zero => simp; omega
      | succ i => simpa using mtL_short b r i
    · exact mtL_short b r i
theorem otL_len (ps ms : List (List Int)) (M : Nat) (hp : ∀ i, (ps.getD i []).length ≤ M) (hm : ∀ i, (ms.getD i []).length ≤ M) : ∀ k, (otL ps ms k).length ≤ k * (M + M)
  | 0 => by simp [otL]
  | k + 1 => by
    have h1 := otL_len ps ms M hp hm k
    have h2 := hp k
    have h3 := hm k
    simp only [otL, List.length_append, Nat.succ_mul]
    omega
theorem mtL_mem (b : List Int) : ∀ (l : List (List Sp)) (i : Nat) (x : Int), x ∈ (mtL b l).getD i [] → x ∈ b
  | [], i, x => by simp [mtL]
  | m :: r, i, x => by
    unfold mtL
    split
    · cases i with
      | zero => intro h; exact List.mem_of_mem_drop (List.mem_of_mem_take (by simpa using h))
      | succ i => intro h; exact mtL_mem b r i x (by simpa using h)
    · exact mtL_mem b r i x
theorem otL_mem (ps ms : List (List Int)) (R : Int → Prop) (hp : ∀ i, ∀ x ∈ ps.getD i [], R x) (hm : ∀ i, ∀ x ∈ ms.getD i [], R x) : ∀ k, ∀ x ∈ otL ps ms k, R x
  | 0, x, h => by simp [otL] at h
  | k + 1, x, h => by
    rw [otL] at h
    rcases List.mem_append.1 h with h | h
    · rcases List.mem_append.1 h with h | h
      · exact otL_mem ps ms R hp hm k x h
      · exact hp k x h
    · exact hm k x h
theorem tv_mem {w : World} {ao : Option Addr} {n cap : Nat} {ps : List (List Int)} (h : TV w ao n cap ps) : ∀ i, ∀ x ∈ ps.getD i [], 0 ≤ x ∧ x ≤ 255 := by
  intro i
  rcases Nat.lt_or_ge i n with hi | hi
  · obtain ⟨b, off, e, hc⟩ := h.at_ (by omega)
    obtain ⟨a, m, c, _, hB⟩ := hc i hi
    exact mem_range hB.rg
  · intro x hx
    rw [List.getD_eq_getElem?_getD, List.getElem?_eq_none (by rw [h.len]; exact hi)] at hx
    simp at hx
theorem drop_tail {α : Type} (l : List α) (k : Nat) (x : α) (r : List α) (h : l.drop k = x :: r) (d : α) : l.getD k d = x ∧ l.drop (k + 1) = r ∧ k < l.length := by
  have hk : k < l.length := by
    rcases Nat.lt_or_ge k l.length with h' | h'
    · exact h'
    · rw [List.drop_eq_nil_of_le h'] at h; cases h
  rw [List.drop_eq_getElem_cons hk] at h
  injection h with h1 h2
  exact ⟨by rw [List.getD_eq_getElem?_getD, List.getElem?_eq_getElem hk]; exact h1, h2, hk⟩
set_option maxRecDepth 100000 in
set_option maxHeartbeats 8000000 in
theorem rrebuilt_any (ao : Option Addr) (n cap : Nat) (b : List Int) (ap : Option Addr) (np cp : Nat) (ps : List (List Int)) (al : Option Addr) (nl cl : Nat) (l : List (List Sp)) (w : World) (hB : BS w ao n cap b) (hP : TV w ap np cp ps) (hS : MS w al nl cl l) (hn : n ≤ 1048576) (hnp : np ≤ 1048576) (hpl : ∀ i, (ps.getD i []).length ≤ 1048576) (hl : nl ≤ 1048576) :
    Calls Try.prog 14 #[.slice ao n cap, .slice ap np cp, .slice al nl cl] w fun e w' => e = .returned (.bool (rebB n b ps l)) ∧ Below w.heap.size w w' := by
  have O := rordered_any al nl cl l n w hS
  have hnc := hB.nc
  have hcm := hB.cm
  have hPn := hP.nc
  have hPm := hP.cm
  have hSn := hS.nc
  have hSm := hS.cm
  have hml : (mtL b l).length ≤ nl := by have := mtL_len b l; rw [hS.len] at this; exact this
  have HOL : Hid (∀ k, (otL ps (mtL b l) k).length ≤ k * 2097152) := otL_len ps (mtL b l) 1048576 hpl (fun i => Nat.le_trans (mtL_short b l i) (by rw [hB.len]; exact hn))
  have HPL : Hid (∀ i, (ps.getD i []).length ≤ 1048576) := hpl
  have HOR : Hid (∀ k, ∀ x ∈ otL ps (mtL b l) k, 0 ≤ x ∧ x ≤ 255) := otL_mem ps (mtL b l) _ (tv_mem hP) (fun i x hx => mem_range hB.rg x (mtL_mem b l i x hx))
  have HB : Hid (BS w ao n cap b) := hB
  have HP : Hid (TV w ap np cp ps) := hP
  have HS : Hid (MS w al nl cl l) := hS
  clear hB hS hP hpl
  obtain ⟨RR, hRR⟩ : ∃ r, rebB n b ps l = r := ⟨_, rfl⟩
  rw [hRR]
  have HR : Hid (rebB n b ps l = RR) := hRR
  clear hRR
  obtain ⟨V, hV⟩ : ∃ V, ordB n (-1, 0) l = V := ⟨_, rfl⟩
  rw [hV] at O
  have HV : Hid (ordB n (-1, 0) l = V) := hV
  clear hV
  go_enter Try.func14, Try.ntmps14
  go_wp2_with fail
  refine O.mono ?_
  rintro e w1 ⟨rfl, hb1⟩
  have B1 : Hid (Below w.heap.size w w1) := hb1
  clear hb1 O
  cases V with
  | false =>
    have e9 : Hid (RR = false) := by have h9 := HR.out; unfold rebB at h9; rw [HV.out, Bool.false_and] at h9; exact h9.symm
    clear HR HV
    go_wp2
    go_ret
    exact ⟨ret_bool e9.out.symm, B1.out⟩
  | true =>
    have HR2 : Hid ((decide (ps.length = (mtL b l).length + 1) && decide ((pcs ps (mtL b l) (mtL b l).length).flatten = b)) = RR) := by have h9 := HR.out; unfold rebB at h9; rw [HV.out, Bool.true_and] at h9; exact h9
    clear HR
    go_wp2
    go_loopw [7, 8, 19] (fun v kv i wr => ∃ (j k : Nat) (p : Sp), j ≤ nl ∧ k ≤ j ∧ k ≤ np ∧ k ≤ (mtL b l).length ∧ i = .int .i64 j ∧ kv = .int .i64 k ∧ Hid (OB wr w.heap.size v (otL ps (mtL b l) k)) ∧ Hid ((mtL b l).drop k = mtL b (l.drop j)) ∧ Hid (ordB n p (l.drop j) = true ∧ 0 ≤ p.2) ∧ Hid (Below w.heap.size w wr)) (fun _ _ i _ => nl - (intOf i).toNat)
    case atStart => exact ⟨0, 0, (-1, 0), Nat.zero_le _, Nat.zero_le _, Nat.zero_le _, Nat.zero_le _, rfl, rfl, OB.nil _ _, rfl, ⟨HV.out, Int.le_refl 0⟩, B1⟩
    case round =>
      clear B1
      obtain ⟨j, k, p, hj, hkj, hkp, hkm, rfl, rfl, HO, HC, HQ, HBE⟩ := hrel
      have hsz := HBE.out.size
      by_cases hlt : j < nl
      · obtain ⟨bb, off, rfl, hc⟩ := (HS.out.below HBE.out).at_ (by omega)
        obtain ⟨a, m, c, c0, hs⟩ := hc j hlt
        have hll : j < l.length := by rw [HS.out.len]; exact hlt
        have hm0 : ¬ m = 0 := by
          intro e
          have := HQ.out.1
          rw [ord_no _ _ l j hll (by rw [hs.len]; exact e)] at this
          cases this
        have hp := HQ.out.1
        rw [ord_go _ _ l j hll (by rw [hs.len]; exact hm0), Bool.and_eq_true] at hp
        obtain ⟨hp1, hp2⟩ := hp
        have hp3 := (og_iff _ _ _).1 hp1
        have hp4 := HQ.out.2
        have hcc := HC.out
        rw [mtL_drop b l j hll] at hcc
        obtain ⟨b2, off2, rfl, hc2⟩ := hs.at_ (by omega)
        obtain ⟨q1, q2⟩ := hc2 0 (by omega)
        clear hc hc2 hs HQ HC hp1
        generalize (l.getD j []).getD 0 (0, 0) = q at *
        obtain ⟨x, y⟩ := q
        simp only at q1 q2 hp3 hp2 hcc
        simp only [Nat.zero_mul, Nat.add_zero] at q1 q2
        obtain ⟨X, rfl⟩ : ∃ X : Nat, x = X := ⟨x.toNat, by omega⟩
        obtain ⟨Y, rfl⟩ : ∃ Y : Nat, y = Y := ⟨y.toNat, by omega⟩
        rw [show ((X : Int)).toNat = X from by omega, show ((Y : Int)).toNat = Y from by omega] at hcc
        have hg2 := World.block_lt_of_cell? wr _ q1
        simp only at hg2
        have d1 : ∀ o, (wr.alloc o).cell? ⟨b2, off2, none⟩ = some (.int .i64 X) := fun o => (World.cell?_of_block (Below.heap_alloc wr o b2 hg2)).trans q1
        have d2 : ∀ o, (wr.alloc o).cell? ⟨b2, off2 + 1, none⟩ = some (.int .i64 Y) := fun o => (World.cell?_of_block (Below.heap_alloc wr o b2 hg2)).trans q2
        have HP2 : Hid (ordB n ((X : Int), (Y : Int)) (l.drop (j + 1)) = true ∧ 0 ≤ ((X : Int), (Y : Int)).2) := ⟨hp2, by simp⟩
        have R2 : Hid (∀ o o', Below w.heap.size w ((wr.alloc o).alloc o')) := fun o o' => (HBE.out.alloc hsz _).alloc (by simp; omega) _
        have HR3 : Hid (∀ o o', OB ((wr.alloc o).alloc o') w.heap.size u7 (otL ps (mtL b l) k)) := fun o o' => (HO.out.below ((Below.refl _ _).alloc (Nat.le_refl _) o)).below ((Below.refl _ _).alloc (Nat.le_refl _) o')
        have hyn : Y ≤ n := by omega
        by_cases hxy : X < Y
        · rw [if_pos (by omega)] at hcc
          obtain ⟨g1, g2, g3⟩ := drop_tail _ _ _ _ hcc []
          have hxy' : ((X : Int) == (Y : Int)) = false := by simp; omega
          have hyc : (Y : Int) ≤ (cap : Int) := by omega
          have hxyi : (X : Int) ≤ (Y : Int) := by omega
          have hcx : ¬ cap = X := by omega
          by_cases hkn : k < np
          · obtain ⟨bp, op, e, hcp⟩ := HP.out.at_ (by omega)
            subst e
            obtain ⟨xa, xm, xd, qx, hBx⟩ := hcp k hkn
            obtain ⟨bo, boff, e, _⟩ := HB.out.at_ (by omega)
            subst e
            have HBb : Hid (∀ W, Below w.heap.size w W → BS W (some ⟨bo, boff + X, none⟩) (Y - X) (cap - X) ((b.drop X).take (Y - X))) := fun W hb => by
              have h9 := (HB.out.below hb).sub X Y (by omega) (by omega)
              rw [if_neg (by omega), Option.map_some, Addr.add_lit] at h9
              exact h9
            have HBx : Hid (∀ W, Below w.heap.size w W → BS W xa xm xd (ps.getD k [])) := fun W hb => hBx.below hb
            have hxm : xm ≤ 1048576 := by have := HPL.out k; rw [hBx.len] at this; exact this
            have hgl := World.block_lt_of_cell? w _ qx
            simp only at hgl
            have hol : (otL ps (mtL b l) k).length ≤ 2199023255552 := Nat.le_trans (HOL.out k) (by omega)
            have HOT : Hid (otL ps (mtL b l) (k + 1) = otL ps (mtL b l) k ++ ps.getD k [] ++ (b.drop X).take (Y - X)) := by show _ = _; rw [otL, g1]
            have HD2 : Hid ((mtL b l).drop (k + 1) = mtL b (l.drop (j + 1))) := g2
            have qw : ∀ o o', ((wr.alloc o).alloc o').cell? ⟨bp, op + k, none⟩ = some (.slice xa xm xd) := fun o o' => ((R2.out o o').cell (by simpa using hgl)).trans qx
            have hkni : (k : Int) < (np : Int) := by omega
            have hwk : IntKind.i64.wrap ((k : Int) + 1) = (k : Int) + 1 := by rw [IntKind.wrap_i64]; omega
            have hk9 : k + 1 ≤ (mtL b l).length := g3
            clear hcc g1 g2 g3 hp2 hp3 hp4 hcp hBx HO
            go_wp2
            generalize hWW : (wr.alloc (.cells #[.slice (some ⟨b2, off2, none⟩) m c] 37)) = wa at *
            have HO0 : Hid (OB (wa.alloc (.cells #[.int .i64 X, .int .i64 Y] 34)).drew w.heap.size u7 (otL ps (mtL b l) k)) := by have h9 := (HR3.out (.cells #[.slice (some ⟨b2, off2, none⟩) m c] 37) (.cells #[.int .i64 X, .int .i64 Y] 34)); rw [hWW] at h9; exact own_below h9 (dr_below (Below.refl _ _))
            have HB0 : Hid (Below w.heap.size w (wa.alloc (.cells #[.int .i64 X, .int .i64 Y] 34)).drew) := by have h9 := R2.out (.cells #[.slice (some ⟨b2, off2, none⟩) m c] 37) (.cells #[.int .i64 X, .int .i64 Y] 34); rw [hWW] at h9; exact dr_below h9
            have hsw : wr.heap.size + 1 = wa.heap.size := by rw [← hWW]; simp
            have HS0 : Hid ((wa.alloc (.cells #[.int .i64 X, .int .i64 Y] 34)).drew.heap[wa.heap.size]? = some (.cells #[.int .i64 X, .int .i64 Y] 34 (0, 0))) := Bk.new wa _ _
            rw [← hsw] at HS0
            clear hsw
            generalize wr.heap.size + 1 = gS at HS0 ⊢
            have HX0 : Hid ((wa.alloc (.cells #[.int .i64 X, .int .i64 Y] 34)).drew.cell? ⟨bp, op + k, none⟩ = some (.slice xa xm xd)) := (HB0.out.cell (by simpa using hgl)).trans qx
            have hz0 : w.heap.size ≤ (wa.alloc (.cells #[.int .i64 X, .int .i64 Y] 34)).drew.heap.size := HB0.out.size
            refine wp_region_noPanic ?_
            refine wp_region_held_drew (S := fun w' => w'.cell? ⟨gS, 0, none⟩ = some (.int .i64 X) ∧ w'.cell? ⟨gS, 1, none⟩ = some (.int .i64 Y) ∧ w'.cell? ⟨bp, op + k, none⟩ = some (.slice xa xm xd)) (by kernel_rfl) ?_ (fun hHeld => ?_)
            · exact ⟨(blk2 HS0.out).1, (blk2 HS0.out).2, HX0.out⟩
            generalize (wa.alloc (.cells #[.int .i64 X, .int .i64 Y] 34)).drew = X0 at *
            clear HR3 R2 HBE c0 q1 q2 d1 d2 qw hWW
            refine wpAnyH_take (i := 0) (v := ?_) rfl (by kernel_rfl) (by kernel_rfl) (by kernel_rfl) (fun _ _ _ h => h) (Or.inl ⟨by rfl, ?_⟩) (by assumption) ?_
            rotate_left
            · (intro w' hSw; (try dsimp only at hSw); go_simp; try with_reducible rfl)
            try simp only [Act.put, List.setIfInBounds_toArray, List.set_cons_zero, List.set_cons_succ, List.getElem_toArray, List.getElem_cons_zero, List.getElem_cons_succ]
            refine wpAnyH_take (i := 1) (v := ?_) rfl (by kernel_rfl) (by kernel_rfl) (by kernel_rfl) (fun _ _ _ h => h) (Or.inl ⟨by rfl, ?_⟩) (by assumption) ?_
            rotate_left
            · (intro w' hSw; (try dsimp only at hSw); go_simp; try with_reducible rfl)
            try simp only [Act.put, List.setIfInBounds_toArray, List.set_cons_zero, List.set_cons_succ, List.getElem_toArray, List.getElem_cons_zero, List.getElem_cons_succ]
            refine wpAnyH_take (i := 2) (v := ?_) rfl (by kernel_rfl) (by kernel_rfl) (by kernel_rfl) (fun _ _ _ h => h) (Or.inl ⟨by rfl, ?_⟩) (by assumption) ?_
            rotate_left
            · (intro w' hSw; (try dsimp only at hSw); go_simp; try with_reducible rfl)
            try simp only [Act.put, List.setIfInBounds_toArray, List.set_cons_zero, List.set_cons_succ, List.getElem_toArray, List.getElem_cons_zero, List.getElem_cons_succ]
            refine wpAnyH_take (i := 3) (v := ?_) rfl (by kernel_rfl) (by kernel_rfl) (by kernel_rfl) (fun _ _ _ h => h) (Or.inl ⟨by rfl, ?_⟩) (by assumption) ?_
            rotate_left
            · (intro w' hSw; (try dsimp only at hSw); go_simp; try with_reducible rfl)
            try simp only [Act.put, List.setIfInBounds_toArray, List.set_cons_zero, List.set_cons_succ, List.getElem_toArray, List.getElem_cons_zero, List.getElem_cons_succ]
            refine wpAnyH_take (i := 4) (v := ?_) rfl (by kernel_rfl) (by kernel_rfl) (by kernel_rfl) (fun _ _ _ h => h) (Or.inl ⟨by rfl, ?_⟩) (by assumption) ?_
            rotate_left
            · (intro w' hSw; (try dsimp only at hSw); go_simp; try with_reducible rfl)
            try simp only [Act.put, List.setIfInBounds_toArray, List.set_cons_zero, List.set_cons_succ, List.getElem_toArray, List.getElem_cons_zero, List.getElem_cons_succ]
            refine wpAnyH_take (i := 6) (v := ?_) rfl (by kernel_rfl) (by kernel_rfl) (by kernel_rfl) (fun _ _ _ h => h) (Or.inl ⟨by rfl, ?_⟩) (by assumption) ?_
            rotate_left
            · (intro w' hSw; (try dsimp only at hSw); go_simp; try with_reducible rfl)
            try simp only [Act.put, List.setIfInBounds_toArray, List.set_cons_zero, List.set_cons_succ, List.getElem_toArray, List.getElem_cons_zero, List.getElem_cons_succ]
            refine wpAnyH_take (i := 7) (v := ?_) rfl (by kernel_rfl) (by kernel_rfl) (by kernel_rfl) (fun _ _ _ h => h) (Or.inl ⟨by rfl, ?_⟩) (by assumption) ?_
            rotate_left
            · (intro w' hSw; (try dsimp only at hSw); go_simp; try with_reducible rfl)
            try simp only [Act.put, List.setIfInBounds_toArray, List.set_cons_zero, List.set_cons_succ, List.getElem_toArray, List.getElem_cons_zero, List.getElem_cons_succ]
            refine wpAnyH_take (i := 8) (v := ?_) rfl (by kernel_rfl) (by kernel_rfl) (by kernel_rfl) (fun _ _ _ h => h) (Or.inl ⟨by rfl, ?_⟩) (by assumption) ?_
            rotate_left
            · (intro w' hSw; (try dsimp only at hSw); go_simp; try with_reducible rfl)
            try simp only [Act.put, List.setIfInBounds_toArray, List.set_cons_zero, List.set_cons_succ, List.getElem_toArray, List.getElem_cons_zero, List.getElem_cons_succ]
            refine wpAnyH_take (i := 9) (v := ?_) rfl (by kernel_rfl) (by kernel_rfl) (by kernel_rfl) (fun _ _ _ h => h) (Or.inl ⟨by rfl, ?_⟩) (by assumption) ?_
            rotate_left
            · (intro w' hSw; (try dsimp only at hSw); go_simp; try with_reducible rfl)
            try simp only [Act.put, List.setIfInBounds_toArray, List.set_cons_zero, List.set_cons_succ, List.getElem_toArray, List.getElem_cons_zero, List.getElem_cons_succ]
            refine wpAnyH_take (i := 10) (v := ?_) rfl (by kernel_rfl) (by kernel_rfl) (by kernel_rfl) (fun _ _ _ h => h) (Or.inl ⟨by rfl, ?_⟩) (by assumption) ?_
            rotate_left
            · (intro w' hSw; (try dsimp only at hSw); go_simp; try with_reducible rfl)
            try simp only [Act.put, List.setIfInBounds_toArray, List.set_cons_zero, List.set_cons_succ, List.getElem_toArray, List.getElem_cons_zero, List.getElem_cons_succ]
            refine wpAnyH_take (i := 11) (v := ?_) rfl (by kernel_rfl) (by kernel_rfl) (by kernel_rfl) (fun _ _ _ h => h) (Or.inl ⟨by rfl, ?_⟩) (by assumption) ?_
            rotate_left
            · (intro w' hSw; (try dsimp only at hSw); go_simp; try with_reducible rfl)
            try simp only [Act.put, List.setIfInBounds_toArray, List.set_cons_zero, List.set_cons_succ, List.getElem_toArray, List.getElem_cons_zero, List.getElem_cons_succ]
            refine wpAnyH_ready (rs := [5]) (by kernel_rfl) (by simp) ?_
            refine AllReadyH.cons rfl (fun K hK => ?_) AllReadyH.nil
            refine step_app rfl _ _ rfl w.heap.size u7 _ rfl HO0.out _ _ _ _ rfl (HBx.out _ HB0.out) (by omega) hz0 ?_
            intro v2 X2 ho2 hgr2
            have HO2 : Hid (OB X2 w.heap.size v2 (otL ps (mtL b l) k ++ ps.getD k [])) := ho2
            have HB2 : Hid (Below w.heap.size w X2) := Below.grown HB0.out hgr2 hz0 (fun k e9 => (World.ownsRow.lt HO0.out _ e9).1)
            have hz3 := HB2.out.size
            have HS2 : Hid (X2.heap[gS]? = some (.cells #[.int .i64 X, .int .i64 Y] 34 (0, 0))) := (hgr2.block _ (Array.getElem?_eq_some_iff.1 HS0.out).1 (fun e9 => row_ne HO0.out HS0.out (by decide) e9.symm)).trans HS0.out
            have HX2 : Hid (X2.cell? ⟨bp, op + k, none⟩ = some (.slice xa xm xd)) := (HB2.out.cell (by simpa using hgl)).trans qx
            have hol2 : (otL ps (mtL b l) k ++ ps.getD k []).length + (Y - X) ≤ 140737488355328 := by rw [List.length_append]; have := HPL.out k; omega
            refine hK.out _ _ ?_ (fun hHeld => ?_)
            · exact ⟨(blk2 HS2.out).1, (blk2 HS2.out).2, HX2.out⟩
            clear hK K
            clear ho2 hgr2 HS0 HX0 HO0 HB0
            try simp only [Act.put, List.setIfInBounds_toArray, List.set_cons_zero, List.set_cons_succ, List.getElem_toArray, List.getElem_cons_zero, List.getElem_cons_succ]
            refine wpAnyH_ready (rs := [12]) (by kernel_rfl) (by simp) ?_
            refine AllReadyH.cons rfl (fun K hK => ?_) AllReadyH.nil
            refine step_app rfl _ _ rfl w.heap.size v2 _ rfl HO2.out _ _ _ _ rfl (HBb.out _ HB2.out) hol2 hz3 ?_
            intro v3 X3 ho3 hgr3
            have HO3 : Hid (OB X3 w.heap.size v3 (otL ps (mtL b l) (k + 1))) := by show OB _ _ _ _; rw [HOT.out]; exact ho3
            have HB3 : Hid (Below w.heap.size w X3) := Below.grown HB2.out hgr3 hz3 (fun k e9 => (World.ownsRow.lt HO2.out _ e9).1)
            have HS3 : Hid (X3.heap[gS]? = some (.cells #[.int .i64 X, .int .i64 Y] 34 (0, 0))) := (hgr3.block _ (Array.getElem?_eq_some_iff.1 HS2.out).1 (fun e9 => row_ne HO2.out HS2.out (by decide) e9.symm)).trans HS2.out
            have HX3 : Hid (X3.cell? ⟨bp, op + k, none⟩ = some (.slice xa xm xd)) := (HB3.out.cell (by simpa using hgl)).trans qx
            refine hK.out _ _ ?_ (fun hHeld => ?_)
            · exact ⟨(blk2 HS3.out).1, (blk2 HS3.out).2, HX3.out⟩
            clear hK K
            clear ho3 hgr3 HS2 HX2 HO2 HB2
            try simp only [Act.put, List.setIfInBounds_toArray, List.set_cons_zero, List.set_cons_succ, List.getElem_toArray, List.getElem_cons_zero, List.getElem_cons_succ]
            refine wpAnyH_take (i := 13) (v := ?_) rfl (by kernel_rfl) (by kernel_rfl) (by kernel_rfl) (fun _ _ _ h => h) (Or.inl ⟨by rfl, ?_⟩) (by assumption) ?_
            rotate_left
            · (intro w' hSw; (try dsimp only at hSw); go_simp; try with_reducible rfl)
            try simp only [Act.put, List.setIfInBounds_toArray, List.set_cons_zero, List.set_cons_succ, List.getElem_toArray, List.getElem_cons_zero, List.getElem_cons_succ]
            refine wpAnyH_done (by kernel_rfl) ?_ _
            refine NoPanic.normal ?_
            go_wp2
            go_roundw
            case rel => exact ⟨j + 1, k + 1, (X, Y), by omega, by omega, by omega, hk9, by go_num, by go_num, HO3, HD2, HP2, HB3⟩
            case measure => simp [intOf]; omega
          · have e9 : Hid (RR = false) := by
              have h9 := HR2.out
              have hlp := HP.out.len
              rw [decide_eq_false (by omega : ¬ ps.length = (mtL b l).length + 1), Bool.false_and] at h9
              exact h9.symm
            have hkni : ¬ (k : Int) < (np : Int) := by omega
            clear hcc g1 g2 g3 hp2 hp3 hp4
            go_wp2
            go_ret
            exact ⟨ret_bool e9.out.symm, R2.out _ _⟩
        · rw [if_neg (by omega)] at hcc
          have hxe : X = Y := by omega
          subst hxe
          have HC2 : Hid ((mtL b l).drop k = mtL b (l.drop (j + 1))) := hcc
          clear hcc hp2 hp3 hp4
          go_wp2
          go_roundw
          case rel => exact ⟨j + 1, k, (X, X), by omega, by omega, by omega, hkm, by go_num, rfl, HR3.out _ _, HC2, HP2, R2.out _ _⟩
          case measure => simp [intOf]; omega
      · obtain rfl : j = nl := by omega
        have hcc := HC.out
        have hnil : l.drop j = [] := List.drop_eq_nil_of_le (by rw [HS.out.len]; exact Nat.le_refl _)
        rw [hnil] at hcc
        have hkl : (mtL b l).length = k := by
          have h9 : (mtL b l).drop k = [] := hcc
          have := List.drop_eq_nil_iff.1 h9
          omega
        have HR3 := HR2.out
        rw [hkl, pcs_flat, HP.out.len] at HR3
        have HR4 : Hid ((decide (np = k + 1) && decide (otL ps (mtL b l) k ++ ps.getD k [] = b)) = RR) := HR3
        have hol : (otL ps (mtL b l) k).length ≤ 2199023255552 := Nat.le_trans (HOL.out k) (by omega)
        have HRO : Hid (∀ x ∈ otL ps (mtL b l) k, 0 ≤ x ∧ x ≤ 255) := HOR.out k
        clear hcc hnil HC HQ HR3 HR2 HOL HOR
        generalize otL ps (mtL b l) k = ot at *
        by_cases hq : np = k + 1
        · have HR5 : Hid (decide (ot ++ ps.getD k [] = b) = RR) := by have h9 := HR4.out; rw [decide_eq_true hq, Bool.true_and] at h9; exact h9
          obtain ⟨bp, op, e, hcp⟩ := HP.out.at_ (by omega)
          subst e
          obtain ⟨xa, xm, xd, qx, hBx⟩ := hcp k (by omega)
          have HBx : Hid (∀ W, Below w.heap.size w W → BS W xa xm xd (ps.getD k [])) := fun W hb => hBx.below hb
          have HBV : Hid (∀ W, Below w.heap.size w W → Bts W (.slice ao n cap) b) := fun W hb => (HB.out.below hb).bts
          have hxm : xm ≤ 1048576 := by have := HPL.out k; rw [hBx.len] at this; exact this
          have HRG : Hid (∀ x ∈ b, 0 ≤ x ∧ x ≤ 255) := mem_range HB.out.rg
          have HRP : Hid (∀ x ∈ ps.getD k [], 0 ≤ x ∧ x ≤ 255) := mem_range hBx.rg
          have hgl := World.block_lt_of_cell? w _ qx
          simp only at hgl
          have hwk : IntKind.i64.wrap (k : Int) = (k : Int) := by rw [IntKind.wrap_i64]; omega
          have hkk : (k : Int) < (k : Int) + 1 := by omega
          have HO0 : Hid (OB wr.drew w.heap.size u7 ot) := own_below HO.out (dr_below (Below.refl _ _))
          have HB0 : Hid (Below w.heap.size w wr.drew) := dr_below HBE.out
          have HX0 : Hid (wr.drew.cell? ⟨bp, op + k, none⟩ = some (.slice xa xm xd)) := (HB0.out.cell (by simpa using hgl)).trans qx
          have hz0 : w.heap.size ≤ wr.drew.heap.size := HB0.out.size
          clear hcp hBx HR4 HB
          subst hq
          go_wp2
          refine wp_region_noPanic ?_
          refine wp_region_held_drew (S := fun w' => w'.cell? ⟨bp, op + k, none⟩ = some (.slice xa xm xd) ∧ (convert 25 9 (.slice ao n cap)).run Try.prog w' = .ok (.string (strOfNums b)) w') (by kernel_rfl) ?_ (fun hHeld => ?_)
          · exact ⟨HX0.out, HBV.out _ HB0.out⟩
          generalize wr.drew = X0 at *
          refine wpAnyH_take (i := 0) (v := ?_) rfl (by kernel_rfl) (by kernel_rfl) (by kernel_rfl) (fun _ _ _ h => h) (Or.inl ⟨by rfl, ?_⟩) (by assumption) ?_
          rotate_left
          · (intro w' hSw; (try dsimp only at hSw); go_simp; try with_reducible rfl)
          try simp only [Act.put, List.setIfInBounds_toArray, List.set_cons_zero, List.set_cons_succ, List.getElem_toArray, List.getElem_cons_zero, List.getElem_cons_succ]
          refine wpAnyH_take (i := 1) (v := ?_) rfl (by kernel_rfl) (by kernel_rfl) (by kernel_rfl) (fun _ _ _ h => h) (Or.inl ⟨by rfl, ?_⟩) (by assumption) ?_
          rotate_left
          · (intro w' hSw; (try dsimp only at hSw); go_simp; try with_reducible rfl)
          try simp only [Act.put, List.setIfInBounds_toArray, List.set_cons_zero, List.set_cons_succ, List.getElem_toArray, List.getElem_cons_zero, List.getElem_cons_succ]
          refine wpAnyH_take (i := 2) (v := ?_) rfl (by kernel_rfl) (by kernel_rfl) (by kernel_rfl) (fun _ _ _ h => h) (Or.inl ⟨by rfl, ?_⟩) (by assumption) ?_
          rotate_left
          · (intro w' hSw; (try dsimp only at hSw); go_simp; try with_reducible rfl)
          try simp only [Act.put, List.setIfInBounds_toArray, List.set_cons_zero, List.set_cons_succ, List.getElem_toArray, List.getElem_cons_zero, List.getElem_cons_succ]
          refine wpAnyH_take (i := 3) (v := ?_) rfl (by kernel_rfl) (by kernel_rfl) (by kernel_rfl) (fun _ _ _ h => h) (Or.inl ⟨by rfl, ?_⟩) (by assumption) ?_
          rotate_left
          · (intro w' hSw; (try dsimp only at hSw); go_simp; try with_reducible rfl)
          try simp only [Act.put, List.setIfInBounds_toArray, List.set_cons_zero, List.set_cons_succ, List.getElem_toArray, List.getElem_cons_zero, List.getElem_cons_succ]
          refine wpAnyH_take (i := 4) (v := ?_) rfl (by kernel_rfl) (by kernel_rfl) (by kernel_rfl) (fun _ _ _ h => h) (Or.inl ⟨by rfl, ?_⟩) (by assumption) ?_
          rotate_left
          · (intro w' hSw; (try dsimp only at hSw); go_simp; try with_reducible rfl)
          try simp only [Act.put, List.setIfInBounds_toArray, List.set_cons_zero, List.set_cons_succ, List.getElem_toArray, List.getElem_cons_zero, List.getElem_cons_succ]
          refine wpAnyH_take (i := 5) (v := ?_) rfl (by kernel_rfl) (by kernel_rfl) (by kernel_rfl) (fun _ _ _ h => h) (Or.inl ⟨by rfl, ?_⟩) (by assumption) ?_
          rotate_left
          · (intro w' hSw; (try dsimp only at hSw); go_simp; try with_reducible rfl)
          try simp only [Act.put, List.setIfInBounds_toArray, List.set_cons_zero, List.set_cons_succ, List.getElem_toArray, List.getElem_cons_zero, List.getElem_cons_succ]
          refine wpAnyH_take (i := 6) (v := ?_) rfl (by kernel_rfl) (by kernel_rfl) (by kernel_rfl) (fun _ _ _ h => h) (Or.inl ⟨by rfl, ?_⟩) (by assumption) ?_
          rotate_left
          · (intro w' hSw; (try dsimp only at hSw); go_simp; try with_reducible rfl)
          try simp only [Act.put, List.setIfInBounds_toArray, List.set_cons_zero, List.set_cons_succ, List.getElem_toArray, List.getElem_cons_zero, List.getElem_cons_succ]
          refine wpAnyH_take (i := 7) (v := ?_) rfl (by kernel_rfl) (by kernel_rfl) (by kernel_rfl) (fun _ _ _ h => h) (Or.inl ⟨by rfl, ?_⟩) (by assumption) ?_
          rotate_left
          · (intro w' hSw; (try dsimp only at hSw); go_simp; try with_reducible rfl)
          try simp only [Act.put, List.setIfInBounds_toArray, List.set_cons_zero, List.set_cons_succ, List.getElem_toArray, List.getElem_cons_zero, List.getElem_cons_succ]
          refine wpAnyH_take (i := 8) (v := ?_) rfl (by kernel_rfl) (by kernel_rfl) (by kernel_rfl) (fun _ _ _ h => h) (Or.inl ⟨by rfl, ?_⟩) (by assumption) ?_
          rotate_left
          · (intro w' hSw; (try dsimp only at hSw); go_simp; try with_reducible rfl)
          try simp only [Act.put, List.setIfInBounds_toArray, List.set_cons_zero, List.set_cons_succ, List.getElem_toArray, List.getElem_cons_zero, List.getElem_cons_succ]
          refine wpAnyH_take (i := 9) (v := ?_) rfl (by kernel_rfl) (by kernel_rfl) (by kernel_rfl) (fun _ _ _ h => h) (Or.inl ⟨by rfl, ?_⟩) (by assumption) ?_
          rotate_left
          · (intro w' hSw; (try dsimp only at hSw); go_simp; try with_reducible rfl)
          try simp only [Act.put, List.setIfInBounds_toArray, List.set_cons_zero, List.set_cons_succ, List.getElem_toArray, List.getElem_cons_zero, List.getElem_cons_succ]
          refine wpAnyH_take (i := 10) (v := ?_) rfl (by kernel_rfl) (by kernel_rfl) (by kernel_rfl) (fun _ _ _ h => h) (Or.inl ⟨by rfl, ?_⟩) (by assumption) ?_
          rotate_left
          · (intro w' hSw; (try dsimp only at hSw); go_simp; try with_reducible rfl)
          try simp only [Act.put, List.setIfInBounds_toArray, List.set_cons_zero, List.set_cons_succ, List.getElem_toArray, List.getElem_cons_zero, List.getElem_cons_succ]
          refine wpAnyH_take (i := 13) (v := ?_) rfl (by kernel_rfl) (by kernel_rfl) (by kernel_rfl) (fun _ _ _ h => h) (Or.inl ⟨by rfl, ?_⟩) (by assumption) ?_
          rotate_left
          · (intro w' hSw; (try dsimp only at hSw); go_simp; try with_reducible rfl)
          try simp only [Act.put, List.setIfInBounds_toArray, List.set_cons_zero, List.set_cons_succ, List.getElem_toArray, List.getElem_cons_zero, List.getElem_cons_succ]
          refine wpAnyH_take (i := 14) (v := ?_) rfl (by kernel_rfl) (by kernel_rfl) (by kernel_rfl) (fun _ _ _ h => h) (Or.inl ⟨by rfl, ?_⟩) (by assumption) ?_
          rotate_left
          · (intro w' hSw; (try dsimp only at hSw); go_simp; try with_reducible rfl)
          try simp only [Act.put, List.setIfInBounds_toArray, List.set_cons_zero, List.set_cons_succ, List.getElem_toArray, List.getElem_cons_zero, List.getElem_cons_succ]
          refine wpAnyH_ready (rs := [11]) (by kernel_rfl) (by simp) ?_
          refine AllReadyH.cons rfl (fun K hK => ?_) AllReadyH.nil
          refine step_app rfl _ _ rfl w.heap.size u7 _ rfl HO0.out _ _ _ _ rfl (HBx.out _ HB0.out) (by omega) hz0 ?_
          intro v2 X2 ho2 hgr2
          have HB2 : Hid (Below w.heap.size w X2) := Below.grown HB0.out hgr2 hz0 (fun k e9 => (World.ownsRow.lt HO0.out _ e9).1)
          have HX2 : Hid (X2.cell? ⟨bp, op + k, none⟩ = some (.slice xa xm xd)) := (HB2.out.cell (by simpa using hgl)).trans qx
          have hcv : (convert 25 9 v2).run Try.prog X2 = .ok (.string (strOfNums (ot ++ ps.getD k []))) X2 := by
            obtain ⟨va, vc, e9, hv9⟩ := ho2.bs (range_mem (fun x hx => by
              rcases List.mem_append.1 hx with h | h
              · exact HRO.out x h
              · exact HRP.out x h))
            subst e9
            exact hv9.bts
          refine hK.out _ _ ?_ (fun hHeld => ?_)
          · exact ⟨HX2.out, HBV.out _ HB2.out⟩
          clear hK K
          clear ho2 hgr2 HX0 HO0 HB0
          try simp only [Act.put, List.setIfInBounds_toArray, List.set_cons_zero, List.set_cons_succ, List.getElem_toArray, List.getElem_cons_zero, List.getElem_cons_succ]
          refine wpAnyH_ready (rs := [12]) (by kernel_rfl) (by simp) ?_
          refine AllReadyH.cons rfl (fun K hK => ?_) AllReadyH.nil
          refine step_conv rfl _ rfl v2 _ rfl hcv ?_
          refine hK.out _ _ ?_ (fun hHeld => ?_)
          · exact ⟨HX2.out, HBV.out _ HB2.out⟩
          clear hK K hcv
          try simp only [Act.put, List.setIfInBounds_toArray, List.set_cons_zero, List.set_cons_succ, List.getElem_toArray, List.getElem_cons_zero, List.getElem_cons_succ]
          refine wpAnyH_take (i := 15) (v := ?_) rfl (by kernel_rfl) (by kernel_rfl) (by kernel_rfl) (fun _ _ _ h => h) (Or.inl ⟨by rfl, ?_⟩) (by assumption) ?_
          rotate_left
          · (intro w' hSw; (try dsimp only at hSw); go_simp; try with_reducible rfl)
          try simp only [Act.put, List.setIfInBounds_toArray, List.set_cons_zero, List.set_cons_succ, List.getElem_toArray, List.getElem_cons_zero, List.getElem_cons_succ]
          refine wpAnyH_take (i := 16) (v := ?_) rfl (by kernel_rfl) (by kernel_rfl) (by kernel_rfl) (fun _ _ _ h => h) (Or.inl ⟨by rfl, ?_⟩) (by assumption) ?_
          rotate_left
          · (intro w' hSw; (try dsimp only at hSw); go_simp; try with_reducible rfl)
          try simp only [Act.put, List.setIfInBounds_toArray, List.set_cons_zero, List.set_cons_succ, List.getElem_toArray, List.getElem_cons_zero, List.getElem_cons_succ]
          refine wpAnyH_take (i := 17) (v := ?_) rfl (by kernel_rfl) (by kernel_rfl) (by kernel_rfl) (fun _ _ _ h => h) (Or.inl ⟨by rfl, ?_⟩) (by assumption) ?_
          rotate_left
          · (intro w' hSw; (try dsimp only at hSw); go_simp; try with_reducible rfl)
          try simp only [Act.put, List.setIfInBounds_toArray, List.set_cons_zero, List.set_cons_succ, List.getElem_toArray, List.getElem_cons_zero, List.getElem_cons_succ]
          refine wpAnyH_done (by kernel_rfl) ?_ _
          refine NoPanic.normal ?_
          go_wp2
          go_ret
          refine ⟨ret_bool ?_, HB2.out⟩
          rw [← List.getD_eq_getElem?_getD, Lib.strOfNums_toList, Lib.strOfNums_toList, bytes_inj _ _ (fun x hx => by
              rcases List.mem_append.1 hx with h | h
              · exact HRO.out x h
              · exact HRP.out x h) HRG.out]
          exact HR5.out
        · have e9 : Hid (RR = false) := by have h9 := HR4.out; rw [decide_eq_false hq, Bool.false_and] at h9; exact h9.symm
          have hqb : ((k : Int) == (np : Int) - 1) = false := by simp; omega
          have hwn : IntKind.i64.wrap ((np : Int) - 1) = (np : Int) - 1 := by rw [IntKind.wrap_i64]; omega
          clear HR4
          go_wp2
          go_quiet (fail)
          go_wp2
          go_ret
          exact ⟨ret_bool e9.out.symm, below_drewN HBE.out _⟩
theorem rebuilt_walk (ao : Option Addr) (n cap : Nat) (b : List Int) (ap : Option Addr) (np cp : Nat) (ps : List (List Int)) (al : Option Addr) (nl cl : Nat) (l : List (List Sp)) (w : World) (hB : BS w ao n cap b) (hP : TV w ap np cp ps) (hS : MS w al nl cl l) (hn : n ≤ 1048576) (hnp : np ≤ 1048576) (hpl : ∀ i, (ps.getD i []).length ≤ 1048576) (hl : nl ≤ 1048576) :
    Calls Try.prog 5 #[.slice ao n cap, .slice ap np cp, .slice al nl cl] w fun e w' => e = .returned (.bool true) ∧ Below w.heap.size w w' := by
  have L1 := rebuilt_any ao n cap b ap np cp ps al nl cl l w hB hP hS hn hl
  have HL2 : Hid (∀ W, Below w.heap.size w W → Calls Try.prog 14 #[.slice ao n cap, .slice ap np cp, .slice al nl cl] W fun e w' => e = .returned (.bool (rebB n b ps l)) ∧ Below W.heap.size W w') := fun W hb => rrebuilt_any ao n cap b ap np cp ps al nl cl l W (hB.below hb) (hP.below hb) (hS.below hb) hn hnp hpl hl
  have e3 : rebB n b [b] [] = true := by simp [rebB, ordB, mtL, pcs]
  have HL3 : Hid (∀ W, Below w.heap.size w W → Calls Try.prog 13 #[.slice ao n cap, .slice (some ⟨W.heap.size, 0, none⟩) 1 1, .slice none 0 0] (W.alloc (.cells #[.slice ao n cap] 25)) fun e w' => e = .returned (.bool true) ∧ Below (W.alloc (.cells #[.slice ao n cap] 25)).heap.size (W.alloc (.cells #[.slice ao n cap] 25)) w') := fun W hb => by
    have hB2 := hB.below (hb.alloc hb.size (.cells #[.slice ao n cap] 25))
    have := rebuilt_any ao n cap b (some ⟨W.heap.size, 0, none⟩) 1 1 [b] none 0 0 [] (W.alloc (.cells #[.slice ao n cap] 25)) hB2 ⟨rfl, Nat.le_refl _, by omega, .inr ⟨_, 0, rfl, fun i hi => by
      obtain rfl : i = 0 := by omega
      exact ⟨ao, n, cap, (Bk.new W _ _).cell 0 rfl, hB2⟩⟩⟩ (MS.nilv _) hn (by omega)
    rw [e3] at this
    exact this
  clear hS hB hP e3
  generalize rebB n b ps l = R at *
  go_enter Try.func5, Try.ntmps5
  go_wp2_with fail
  refine L1.mono ?_
  rintro e w1 ⟨rfl, hb1⟩
  have L2 := HL2.out w1 hb1
  have R1 : Hid (Below w.heap.size w w1) := hb1
  clear hb1 L1
  go_wp2_with fail
  refine L2.mono ?_
  rintro e w2 ⟨rfl, hb2⟩
  have R2 : Hid (Below w.heap.size w w2) := R1.out.trans (hb2.mono R1.out.size)
  clear hb2 L2
  have L3 := HL3.out w2 R2.out
  go_wp2_with fail
  refine L3.mono ?_
  rintro e w3 ⟨rfl, hb3⟩
  have R3 : Hid (Below w.heap.size w w3) := (R2.out.alloc R2.out.size _).trans (hb3.mono (by have := R2.out.size; simp; omega))
  clear hb3 L3
  go_wp2
  go_ret
  exact ⟨rfl, R3.out⟩
end Go.Proofs.Ytpdkdfgcnhcmkaa.aud
