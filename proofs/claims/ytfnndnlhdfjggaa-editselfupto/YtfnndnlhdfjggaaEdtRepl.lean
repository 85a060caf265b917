/- What edit.expand and edit.Replace answer at matches of one span each and one part. -/
import Derived.Test.YtfnndnlhdfjggaaEdtRepl0
import Derived.Test.YtfnndnlhdfjggaaEdtSplit
set_option linter.unusedVariables false
set_option linter.unusedSimpArgs false
namespace Go.Proofs.Ytfnndnlhdfjggaa.edt
open Go.RowKit

/-- One part: a row of one, in memory. -/
structure P1 (w : World) (gp : Nat) (tv : Value) (A : Int) : Prop where
  c0 : w.cell? ⟨gp, 0, none⟩ = some tv
  c1 : w.cell? ⟨gp, 1, none⟩ = some (.int .i64 A)
theorem P1.below {w w' : World} {gp : Nat} {tv : Value} {A : Int} (h : P1 w gp tv A) (hb : Below w.heap.size w w') : P1 w' gp tv A :=
  ⟨(hb.cell (World.block_lt_of_cell? w _ h.c0)).trans h.c0, (hb.cell (World.block_lt_of_cell? w _ h.c1)).trans h.c1⟩

set_option maxHeartbeats 1000000 in
theorem expand_self (B : Nat) (ov : Value) (o : List Int) (gp cp : Nat) (xa : Option Addr) (xn xc : Nat) (ao : Option Addr) (n cap : Nat) (b : List Int) (g x y : Nat) (w : World) (hO : OB w B ov o) (hP : P1 w gp (.slice xa xn xc) 0) (hB : ∀ W, Below B w W → BS W ao n cap b) (h1 : w.cell? ⟨g, 0, none⟩ = some (.int .i64 x)) (h2 : w.cell? ⟨g, 1, none⟩ = some (.int .i64 y)) (hxy : x ≤ y) (hyn : y ≤ n) (hBw : B ≤ w.heap.size) (hol : o.length ≤ 70368744177664) (hn : n ≤ 1048576) :
    Calls Try.prog 31 #[ov, .slice (some ⟨gp, 0, none⟩) 1 cp, .slice ao n cap, .agg #[.slice (some ⟨g, 0, none⟩) 1 1]] w fun e w' => ∃ v', e = .returned v' ∧ OB w' B v' (o ++ (b.drop x).take (y - x)) ∧ Below B w w' ∧ Fr w w' := by
  have hgp := World.block_lt_of_cell? w _ hP.c0
  have hg := World.block_lt_of_cell? w _ h1
  simp only at hgp hg
  have hgpn : ¬ gp = w.heap.size := by omega
  have hgn : ¬ g = w.heap.size := by omega
  have p0 : ∀ q, (w.alloc q).cell? ⟨gp, 0, none⟩ = some (.slice xa xn xc) := fun q => (World.cell?_of_block (Below.heap_alloc w q gp hgp)).trans hP.c0
  have p1 : ∀ q, (w.alloc q).cell? ⟨gp, 1, none⟩ = some (.int .i64 0) := fun q => (World.cell?_of_block (Below.heap_alloc w q gp hgp)).trans hP.c1
  have HBO : Hid (∀ q r : Obj, Calls Try.prog 43 #[.int .i64 0, .slice ao n cap, .agg #[.slice (some ⟨g, 0, none⟩) 1 1]] ((w.alloc q).alloc r) fun e w' => ∃ ao' m c, e = .returned (.slice ao' m c) ∧ BS ((w.alloc q).alloc r) ao' m c ((b.drop x).take (y - x)) ∧ Below ((w.alloc q).alloc r).heap.size ((w.alloc q).alloc r) w') := fun q r => by
    have hb2 : Below w.heap.size w ((w.alloc q).alloc r) := ((Below.refl _ w).alloc (Nat.le_refl _) q).alloc (by simp) r
    exact bytesOf_any ao n cap b g x y _ (hB _ (hb2.mono hBw)) ((hb2.cell (by simpa using hg)).trans h1) ((hb2.cell (by simpa using hg)).trans h2) hxy hyn
  have HO : Hid (OB w B ov o) := hO
  have HVB : Hid (∀ k, ov.ownBlock = some k → B ≤ k) := fun k e => (World.ownsRow.lt hO k e).1
  obtain ⟨va, vn, vc, rfl⟩ : ∃ a m c, ov = Value.slice a m c := by obtain ⟨a, c, e⟩ := own_slice hO; exact ⟨a, _, c, e⟩
  have hl9 : ((b.drop x).take (y - x)).length ≤ 1048576 := by rw [List.length_take]; omega
  clear hB h1 h2 hP hO
  go_enter Try.func31, Try.ntmps31
  go_wp2
  refine wp_loop_rounds 2 ?_
  rw [rounds_succ]
  go_wp2_with fail
  refine (HBO.out _ _).mono ?_
  rintro e w1 ⟨ba, bm, bc, rfl, hbs, hb1⟩
  have hbm := hbs.len
  have HBS : Hid (BS w1 ba bm bc ((b.drop x).take (y - x))) := hbs.below hb1
  have hb1' : Below w.heap.size w w1 := (((Below.refl _ w).alloc (Nat.le_refl _) _).alloc (by simp) _).trans (hb1.mono (by simp; omega))
  have HO1 : Hid (OB w1 B (.slice va vn vc) o) := HO.out.below hb1'
  have HB1 : Hid (Below B w w1) := hb1'.mono hBw
  have HF1 : Hid (Fr w w1) := Fr.of_below hb1'
  have hsz1 : B ≤ w1.heap.size := Nat.le_trans hBw hb1'.size
  clear HBO hbs hb1 hb1' HO p0 p1
  go_wp2_with (at_builtin; refine wpList_app rfl _ _ rfl B _ o rfl HO1.out ba bm bc _ rfl HBS.out (by omega) hsz1 ?_)
  intro v' w2 hO2 hgr hat
  have R1 : Hid (OB w2 B v' (o ++ (b.drop x).take (y - x))) := hO2
  have R2 : Hid (Below B w w2) := Below.grown HB1.out hgr hsz1 HVB.out
  have R3 : Hid (Fr w w2) := HF1.out.grown HO1.out (.inr rfl) hgr
  clear hO2 hgr hat HO1 HBS HB1 HF1
  go_wp2
  rw [rounds_succ]
  go_wp2
  go_ret
  exact ⟨_, rfl, R1.out, R2.out, R3.out⟩
set_option maxHeartbeats 1000000 in
theorem expand_text (B : Nat) (ov : Value) (o : List Int) (gp cp : Nat) (xa : Option Addr) (xn xc : Nat) (tx : List Int) (bv fv : Value) (fa : Option Addr) (w : World) (hf : fv = .agg #[.slice fa 1 1]) (hO : OB w B ov o) (hP : P1 w gp (.slice xa xn xc) (-1)) (hB : ∀ W, Below B w W → BS W xa xn xc tx) (hBw : B ≤ w.heap.size) (hol : o.length + xn ≤ 140737488355328) :
    Calls Try.prog 31 #[ov, .slice (some ⟨gp, 0, none⟩) 1 cp, bv, fv] w fun e w' => ∃ v', e = .returned v' ∧ OB w' B v' (o ++ tx) ∧ Below B w w' ∧ Fr w w' := by
  subst hf
  have hgp := World.block_lt_of_cell? w _ hP.c0
  simp only at hgp
  have hgpn : ¬ gp = w.heap.size := by omega
  have p0 : ∀ q, (w.alloc q).cell? ⟨gp, 0, none⟩ = some (.slice xa xn xc) := fun q => (World.cell?_of_block (Below.heap_alloc w q gp hgp)).trans hP.c0
  have p1 : ∀ q, (w.alloc q).cell? ⟨gp, 1, none⟩ = some (.int .i64 (-1)) := fun q => (World.cell?_of_block (Below.heap_alloc w q gp hgp)).trans hP.c1
  have HB : Hid (∀ W, Below B w W → BS W xa xn xc tx) := hB
  have HO : Hid (∀ q r, OB ((w.alloc q).alloc r) B ov o) := fun q r => (hO.below ((Below.refl _ _).alloc (Nat.le_refl _) q)).below ((Below.refl _ _).alloc (Nat.le_refl _) r)
  have HVB : Hid (∀ k, ov.ownBlock = some k → B ≤ k) := fun k e => (World.ownsRow.lt hO k e).1
  have HBB : Hid (∀ q r, Below B w ((w.alloc q).alloc r)) := fun q r => ((Below.refl B w).alloc hBw q).alloc (by simp; omega) r
  obtain ⟨va, vn, vc, rfl⟩ : ∃ a m c, ov = Value.slice a m c := by obtain ⟨a, c, e⟩ := own_slice hO; exact ⟨a, _, c, e⟩
  clear hB hP hO
  go_enter Try.func31, Try.ntmps31
  go_wp2
  refine wp_loop_rounds 2 ?_
  rw [rounds_succ]
  go_wp2_with (at_builtin; refine wpList_app rfl _ _ rfl B _ o rfl (HO.out _ _) xa xn xc _ rfl (HB.out _ (HBB.out _ _)) hol (by simp; omega) ?_)
  intro v' w2 hO2 hgr hat
  have R1 : Hid (OB w2 B v' (o ++ tx)) := hO2
  have R2 : Hid (Below B w w2) := Below.grown (HBB.out _ _) hgr (by simp; omega) HVB.out
  have R3 : Hid (Fr w w2) := ((((Fr.refl w).alloc _).alloc _)).grown (HO.out _ _) (.inr rfl) hgr
  clear hO2 hgr hat HO HB HBB p0 p1
  go_wp2
  rw [rounds_succ]
  go_wp2
  go_ret
  exact ⟨_, rfl, R1.out, R2.out, R3.out⟩
end Go.Proofs.Ytfnndnlhdfjggaa.edt
