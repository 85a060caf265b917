/- Texts that the proof leans on, one behind the other. -/
import Derived.Test.YtinlolmjafjhnaaGreatDoorBdCls4
import Derived.Test.YtinlolmjafjhnaaGreatDoorBdLow1
import Derived.Deep.RegionHeld3
import Derived.Deep.RegionWith
import Derived.Laws.AppendOwnNone

section
/- lower's maker at the letter a. -/
set_option linter.unusedVariables false
set_option linter.unusedSimpArgs false
namespace Go.Proofs.YtinlolmjafjhnaaGreatDoor.low
open Go.RowKit nod
open Go.Proofs.YtinlolmjafjhnaaGreatDoor.rng (R has IsSet Sl code CanF RV ret_int ret_bool info_parts)
open Go.Proofs.YtinlolmjafjhnaaGreatDoor.cls (Set_any Set_none Ans errS fitN shortN shortL own_sl i64s cells4 cells8 negP combP wideP withP IsP)
open Go.Proofs.YtinlolmjafjhnaaGreatDoor.fld (sim toldB tpts has_one sim_untold told_iff IsClo)

def aL : List R := [(65, 65), (97, 97)]
theorem a_fin : tpts.all (fun x => (sim x == sim 97) == has aL x) = true := by decide +kernel
theorem a_told : toldB 65 = true ∧ sim 97 = 97 ∧ sim 65 = 97 := by decide +kernel
theorem a_clo : IsClo aL [(97, 97)] := by
 refine ⟨⟨by decide, by decide, by decide, by decide, by decide, by decide, trivial⟩, fun x hx => ?_⟩
 have e : (∃ y, has [(97, 97)] y = true ∧ sim y = sim x) ↔ sim x = 97 := by
  constructor
  ·rintro ⟨y, hy, e⟩
   obtain rfl := ((has_one 97 y).1 hy).2
   rw [← e]; exact a_told.2.1
  ·intro e
   exact ⟨97, (has_one 97 97).2 ⟨by decide, rfl⟩, by rw [e]; exact a_told.2.1⟩
 rw [e]
 cases t : toldB x
 ·rw [sim_untold t, rng.has_iff]
  constructor
  ·rintro ⟨_, p, hp, h1, h2⟩
   unfold aL at hp
   simp only [List.mem_cons, List.mem_nil_iff, or_false] at hp
   rcases hp with rfl | rfl
   ·obtain rfl : x = 65 := by simp only at h1 h2; omega
    rw [a_told.1] at t; cases t
   ·simp only at h1 h2; omega
  ·rintro rfl
   exact ⟨hx, (97, 97), by unfold aL; simp, Int.le_refl _, Int.le_refl _⟩
 ·have := List.all_eq_true.1 a_fin x ((told_iff x).1 t)
  rw [beq_iff_eq, a_told.2.1] at this
  rw [← this, beq_iff_eq]
def aT : Nd := .mk 1 0 97 0 false ⟨#[]⟩ [] []
theorem a_err : errS 1 1 aT = 0 := by decide
theorem a_sz : aT.sz ≤ 1 := by decide
theorem a_short : shortN aT := by
 simp only [aT, shortN, shortL]
 exact ⟨by decide, trivial⟩
theorem a_fit {r : List R} (h : IsP r (fitN false 1 false 1 aT)) : r = aL := by
 refine h.eq (Q := fun x => ∃ y, has [(97, 97)] y = true ∧ sim y = sim x) ⟨a_clo.1, a_clo.2⟩ (fun x hx => ?_)
 show wideP false 1 (fun x => x = 97) x ↔ _
 unfold wideP withP
 simp only [Bool.false_eq_true, if_false, false_and, or_false]
 rw [if_neg (by decide)]
 constructor
 ·rintro ⟨y, h1, h2, h3⟩
  exact ⟨y, (has_one 97 y).2 ⟨h1, h2⟩, h3⟩
 ·rintro ⟨y, h1, h2⟩
  have := (has_one 97 y).1 h1
  exact ⟨y, this.1, this.2, h2⟩
theorem a_nv (B : Nat) (w : World) : NV B w aT (.agg #[.int .i64 1, .int .i64 0, .int .i64 97, .int .i64 0, .bool false, .string ⟨#[]⟩, .slice none 0 0, .slice none 0 0]) := nv_leaf B w 1 0 97 0 false ⟨#[]⟩ (i64s (by decide) (by decide)) (i64s (by decide) (by decide)) (i64s (by decide) (by decide)) (i64s (by decide) (by decide)) (by decide)
theorem infoNode : (Tryz.prog.info? 25).map (·.size) = some 8 := by kernel_rfl
/-- The maker m lies in block mb; tables and texts as in w0. -/
structure LC (w0 W : World) (mb tb : Nat) : Prop where
 tabs : prp.Tabs w0 tb
 env : prp.Env w0
 bel : Below w0.heap.size w0 W
 ge : w0.heap.size ≤ mb
 blk : Bk W mb #[.pointer (some ⟨tb, 0, none⟩), .bool false, .bool false, .bool false, .int .i64 1, .int .i64 0] 61
theorem LC.on {w0 W W' : World} {mb tb : Nat} (c : LC w0 W mb tb) (h : Below W.heap.size W W') : LC w0 W' mb tb := ⟨c.tabs, c.env, c.bel.trans (below_less h c.bel.size), c.ge, c.blk.on h⟩
theorem LC.kp {w0 W W' : World} {mb tb : Nat} (c : LC w0 W mb tb) (h : Kp (some mb) W W') (hm : Bk W' mb #[.pointer (some ⟨tb, 0, none⟩), .bool false, .bool false, .bool false, .int .i64 1, .int .i64 0] 61) : LC w0 W' mb tb := ⟨c.tabs, c.env, c.bel.trans (h.below c.bel.size (fun x e => by cases e; exact c.ge)), c.ge, hm⟩
theorem LC.tb {w0 W : World} {mb tb : Nat} (c : LC w0 W mb tb) : prp.Tabs W tb := c.tabs.below c.bel
theorem LC.ev {w0 W : World} {mb tb : Nat} (c : LC w0 W mb tb) : prp.Env W := c.env.below c.bel
theorem kp_set8 {E : Option Nat} {w W : World} {k : Nat} (h : Kp E w W) (hg : w.heap.size ≤ k) (x0 x1 x2 x3 x4 x5 x6 x7 : Value) : Kp E w ((((((((W.setCell ⟨k, 0, none⟩ x0).setCell ⟨k, 1, none⟩ x1).setCell ⟨k, 2, none⟩ x2).setCell ⟨k, 3, none⟩ x3).setCell ⟨k, 4, none⟩ x4).setCell ⟨k, 5, none⟩ x5).setCell ⟨k, 6, none⟩ x6).setCell ⟨k, 7, none⟩ x7) :=
 (((((((h.setCell (p := ⟨k, 0, none⟩) (.inl hg) _).setCell (p := ⟨k, 1, none⟩) (.inl hg) _).setCell (p := ⟨k, 2, none⟩) (.inl hg) _).setCell (p := ⟨k, 3, none⟩) (.inl hg) _).setCell (p := ⟨k, 4, none⟩) (.inl hg) _).setCell (p := ⟨k, 5, none⟩) (.inl hg) _).setCell (p := ⟨k, 6, none⟩) (.inl hg) _).setCell (p := ⟨k, 7, none⟩) (.inl hg) _
theorem bk_off8 {W : World} {g k : Nat} {cs : Array Value} {t : TypeId} (h : Bk W g cs t) (hg : g ≠ k) (x0 x1 x2 x3 x4 x5 x6 x7 : Value) : Bk ((((((((W.setCell ⟨k, 0, none⟩ x0).setCell ⟨k, 1, none⟩ x1).setCell ⟨k, 2, none⟩ x2).setCell ⟨k, 3, none⟩ x3).setCell ⟨k, 4, none⟩ x4).setCell ⟨k, 5, none⟩ x5).setCell ⟨k, 6, none⟩ x6).setCell ⟨k, 7, none⟩ x7) g cs t :=
 (((((((h.apart hg x0).apart hg x1).apart hg x2).apart hg x3).apart hg x4).apart hg x5).apart hg x6).apart hg x7
theorem bk_set8 {W : World} {k : Nat} {a0 a1 a2 a3 a4 a5 a6 a7 : Value} {t : TypeId} (h : Bk W k #[a0, a1, a2, a3, a4, a5, a6, a7] t) (x0 x1 x2 x3 x4 x5 x6 x7 : Value) : Bk ((((((((W.setCell ⟨k, 0, none⟩ x0).setCell ⟨k, 1, none⟩ x1).setCell ⟨k, 2, none⟩ x2).setCell ⟨k, 3, none⟩ x3).setCell ⟨k, 4, none⟩ x4).setCell ⟨k, 5, none⟩ x5).setCell ⟨k, 6, none⟩ x6).setCell ⟨k, 7, none⟩ x7) k #[x0, x1, x2, x3, x4, x5, x6, x7] t := by
 have := (((((((h.set 0 x0).set 1 x1).set 2 x2).set 3 x3).set 4 x4).set 5 x5).set 6 x6).set 7 x7
 simpa using this
/-- All eight cells of a block may be written. -/
theorem open8 {W : World} {g : Nat} {a0 a1 a2 a3 a4 a5 a6 a7 : Value} {t : TypeId} (h : Bk W g #[a0, a1, a2, a3, a4, a5, a6, a7] t) : (W.cell? ⟨g, 0, none⟩ = some a0 ∧ W.cell? ⟨g, 1, none⟩ = some a1 ∧ W.cell? ⟨g, 2, none⟩ = some a2 ∧ W.cell? ⟨g, 3, none⟩ = some a3 ∧ W.cell? ⟨g, 4, none⟩ = some a4 ∧ W.cell? ⟨g, 5, none⟩ = some a5 ∧ W.cell? ⟨g, 6, none⟩ = some a6 ∧ W.cell? ⟨g, 7, none⟩ = some a7) ∧ (W.frozen? ⟨g, 0, none⟩ = false ∧ W.frozen? ⟨g, 1, none⟩ = false ∧ W.frozen? ⟨g, 2, none⟩ = false ∧ W.frozen? ⟨g, 3, none⟩ = false ∧ W.frozen? ⟨g, 4, none⟩ = false ∧ W.frozen? ⟨g, 5, none⟩ = false ∧ W.frozen? ⟨g, 6, none⟩ = false ∧ W.frozen? ⟨g, 7, none⟩ = false) :=
 ⟨⟨h.cell 0 rfl, h.cell 1 rfl, h.cell 2 rfl, h.cell 3 rfl, h.cell 4 rfl, h.cell 5 rfl, h.cell 6 rfl, h.cell 7 rfl⟩, h.frozen 0, h.frozen 1, h.frozen 2, h.frozen 3, h.frozen 4, h.frozen 5, h.frozen 6, h.frozen 7⟩
def S15 (a : Option Addr) (cp : Nat) : Value := .agg #[.int .i64 15, .int .i64 0, .int .i64 0, .int .i64 0, .bool false, .string ⟨#[]⟩, .slice a 2 cp, .slice none 0 0]
theorem setc_a {w0 W : World} {mb tb : Nat} (c : LC w0 W mb tb) : Calls Tryz.prog 19 #[.pointer (some ⟨tb, 0, none⟩), .agg #[.int .i64 1, .int .i64 0, .int .i64 97, .int .i64 0, .bool false, .string ⟨#[]⟩, .slice none 0 0, .slice none 0 0], .agg #[.bool false, .bool false, .bool false, .int .i64 1]] W fun e w' => ∃ a cp, e = .returned (.tuple #[.slice a 2 cp, .int .i64 0]) ∧ Below W.heap.size W w' := by
 have C := Set_any 1 (by decide) aT _ W.heap.size W tb false false false 1 a_sz a_short (a_nv _ _) (Nat.le_refl _) c.tb c.ev
 rw [a_err] at C
 unfold Ans at C
 refine C.mono ?_
 rintro e w2 ⟨v2, r, rfl, o2, i2, _, b2⟩
 obtain rfl := a_fit (i2 (by first | rfl | trivial))
 obtain ⟨ya, yc, hy⟩ := own_sl o2
 subst hy
 exact ⟨ya, yc, rfl, b2⟩
set_option maxHeartbeats 4000000 in
set_option maxRecDepth 1000000 in
theorem mset_a {w0 W : World} {mb tb : Nat} (c : LC w0 W mb tb) : Calls Tryz.prog 51 #[.pointer (some ⟨mb, 0, none⟩), .agg #[.int .i64 1, .int .i64 0, .int .i64 97, .int .i64 0, .bool false, .string ⟨#[]⟩, .slice none 0 0, .slice none 0 0]] W fun e w' => ∃ a cp, e = .returned (S15 a cp) ∧ LC w0 w' mb tb ∧ Kp (some mb) W w' := by
 have HB : Hid (Below W.heap.size W ((W.alloc (.cells #[.int .i64 1, .int .i64 0, .int .i64 97, .int .i64 0, .bool false, .string ⟨#[]⟩, .slice none 0 0, .slice none 0 0] 25)).alloc (.cells #[.int .i64 0, .int .i64 0, .int .i64 0, .int .i64 0, .bool false, .string ⟨#[]⟩, .slice none 0 0, .slice none 0 0] 25))) := below2 _ _ _
 have HX : Hid (Bk ((W.alloc (.cells #[.int .i64 1, .int .i64 0, .int .i64 97, .int .i64 0, .bool false, .string ⟨#[]⟩, .slice none 0 0, .slice none 0 0] 25)).alloc (.cells #[.int .i64 0, .int .i64 0, .int .i64 0, .int .i64 0, .bool false, .string ⟨#[]⟩, .slice none 0 0, .slice none 0 0] 25)) W.heap.size #[.int .i64 1, .int .i64 0, .int .i64 97, .int .i64 0, .bool false, .string ⟨#[]⟩, .slice none 0 0, .slice none 0 0] 25) := (Bk.new W _ _).past _
 have HR : Hid (Bk ((W.alloc (.cells #[.int .i64 1, .int .i64 0, .int .i64 97, .int .i64 0, .bool false, .string ⟨#[]⟩, .slice none 0 0, .slice none 0 0] 25)).alloc (.cells #[.int .i64 0, .int .i64 0, .int .i64 0, .int .i64 0, .bool false, .string ⟨#[]⟩, .slice none 0 0, .slice none 0 0] 25)) (W.heap.size + 1) #[.int .i64 0, .int .i64 0, .int .i64 0, .int .i64 0, .bool false, .string ⟨#[]⟩, .slice none 0 0, .slice none 0 0] 25) := bk2
 have HM : Hid (Bk ((W.alloc (.cells #[.int .i64 1, .int .i64 0, .int .i64 97, .int .i64 0, .bool false, .string ⟨#[]⟩, .slice none 0 0, .slice none 0 0] 25)).alloc (.cells #[.int .i64 0, .int .i64 0, .int .i64 0, .int .i64 0, .bool false, .string ⟨#[]⟩, .slice none 0 0, .slice none 0 0] 25)) mb #[.pointer (some ⟨tb, 0, none⟩), .bool false, .bool false, .bool false, .int .i64 1, .int .i64 0] 61) := c.blk.on (below2 _ _ _)
 have HS : Hid (∀ W', Below W.heap.size W W' → Calls Tryz.prog 19 #[.pointer (some ⟨tb, 0, none⟩), .agg #[.int .i64 1, .int .i64 0, .int .i64 97, .int .i64 0, .bool false, .string ⟨#[]⟩, .slice none 0 0, .slice none 0 0], .agg #[.bool false, .bool false, .bool false, .int .i64 1]] W' fun e w' => ∃ a cp, e = .returned (.tuple #[.slice a 2 cp, .int .i64 0]) ∧ Below W'.heap.size W' w') := fun W' h => setc_a (c.on h)
 have HC : Hid (LC w0 W mb tb) := c
 have hmb := c.blk.lt
 clear c
 go_enter Tryz.func51, Tryz.ntmps51
 go_wp2
 generalize (W.alloc (.cells #[.int .i64 1, .int .i64 0, .int .i64 97, .int .i64 0, .bool false, .string ⟨#[]⟩, .slice none 0 0, .slice none 0 0] 25)).alloc (.cells #[.int .i64 0, .int .i64 0, .int .i64 0, .int .i64 0, .bool false, .string ⟨#[]⟩, .slice none 0 0, .slice none 0 0] 25) = W1 at *
 have x := cells8 HX.out
 have y0 := HM.out.cell 0 (u := .pointer (some ⟨tb, 0, none⟩)) rfl
 have y1 := HM.out.cell 1 (u := .bool false) rfl
 have y2 := HM.out.cell 2 (u := .bool false) rfl
 have y3 := HM.out.cell 3 (u := .bool false) rfl
 have y4 := HM.out.cell 4 (u := .int .i64 1) rfl
 go_region_held3 (fun w' => w'.cell? ⟨W.heap.size, 0, none⟩ = some (.int .i64 1) ∧ w'.cell? ⟨W.heap.size, 1, none⟩ = some (.int .i64 0) ∧ w'.cell? ⟨W.heap.size, 2, none⟩ = some (.int .i64 97) ∧ w'.cell? ⟨W.heap.size, 3, none⟩ = some (.int .i64 0) ∧ w'.cell? ⟨W.heap.size, 4, none⟩ = some (.bool false) ∧ w'.cell? ⟨W.heap.size, 5, none⟩ = some (.string ⟨#[]⟩) ∧ w'.cell? ⟨W.heap.size, 6, none⟩ = some (.slice none 0 0) ∧ w'.cell? ⟨W.heap.size, 7, none⟩ = some (.slice none 0 0) ∧ w'.cell? ⟨mb, 0, none⟩ = some (.pointer (some ⟨tb, 0, none⟩)) ∧ w'.cell? ⟨mb, 1, none⟩ = some (.bool false) ∧ w'.cell? ⟨mb, 2, none⟩ = some (.bool false) ∧ w'.cell? ⟨mb, 3, none⟩ = some (.bool false) ∧ w'.cell? ⟨mb, 4, none⟩ = some (.int .i64 1)) (go_keep) (
  (go_at_call 19; refine (HS.out _ HB.out.drew).mono ?_; rintro e w1 ⟨a, cp, rfl, b0⟩; have b1 : Below W1.heap.size W1 w1 := (Below.refl _ W1).drew.trans b0; have HB1 : Hid (Below W.heap.size W w1) := HB.out.trans (below_less b1 HB.out.size); have HM1 : Hid (Bk w1 mb #[.pointer (some ⟨tb, 0, none⟩), .bool false, .bool false, .bool false, .int .i64 1, .int .i64 0] 61) := HM.out.on b1; have HR1 : Hid (Bk w1 (W.heap.size + 1) #[.int .i64 0, .int .i64 0, .int .i64 0, .int .i64 0, .bool false, .string ⟨#[]⟩, .slice none 0 0, .slice none 0 0] 25) := HR.out.on b1; have z := cells8 (HX.out.on b1); have z0 := (HM.out.on b1).cell 0 (u := .pointer (some ⟨tb, 0, none⟩)) rfl; have z1 := (HM.out.on b1).cell 1 (u := .bool false) rfl; have z2 := (HM.out.on b1).cell 2 (u := .bool false) rfl; have z3 := (HM.out.on b1).cell 3 (u := .bool false) rfl; have z4 := (HM.out.on b1).cell 4 (u := .int .i64 1) rfl; have z5 := (HM.out.on b1).cell 5 (u := .int .i64 0) rfl; have z6 := (HM.out.on b1).frozen 5; have z7 := open8 ((HR.out.on b1).apart (i := 5) (show W.heap.size + 1 ≠ mb by omega) (.int .i64 0)); clear b0 b1))
 all_goals go_wp2
 all_goals (refine bodyPost_ret (results_cell_row Tryz.results51 _ _ (W.heap.size + 1) _ #[.int .i64 15, .int .i64 0, .int .i64 0, .int .i64 0, .bool false, .string ⟨#[]⟩, .slice a 2 cp, .slice none 0 0] _ _ rfl (bk_set8 (HR1.out.apart (i := 5) (show W.heap.size + 1 ≠ mb by omega) (.int .i64 0)) _ _ _ _ _ _ _ _) Tryz.underlying25 rfl infoNode) rfl ?_)
 all_goals (
  have k1 : Kp (some mb) W (w1.setCell ⟨mb, 5, none⟩ (.int .i64 0)) := (Kp.of_below HB1.out).setCell (p := ⟨mb, 5, none⟩) (.inr rfl) _
  have k2 := kp_set8 (k := W.heap.size + 1) k1 (by omega) (.int .i64 15) (.int .i64 0) (.int .i64 0) (.int .i64 0) (.bool false) (.string ⟨#[]⟩) (.slice a 2 cp) (.slice none 0 0)
  have m1 : Bk (w1.setCell ⟨mb, 5, none⟩ (.int .i64 0)) mb #[.pointer (some ⟨tb, 0, none⟩), .bool false, .bool false, .bool false, .int .i64 1, .int .i64 0] 61 := by simpa using HM1.out.set 5 (.int .i64 0)
  exact ⟨a, cp, rfl, HC.out.kp k2 (bk_off8 m1 (by omega) _ _ _ _ _ _ _ _), k2⟩)
end Go.Proofs.YtinlolmjafjhnaaGreatDoor.low
end

section
/- The letter a as an item of lower: no texts, its set. -/
set_option linter.unusedVariables false
set_option linter.unusedSimpArgs false
namespace Go.Proofs.YtinlolmjafjhnaaGreatDoor.low
open Go.RowKit nod
open Go.Proofs.YtinlolmjafjhnaaGreatDoor.rng (R has IsSet Sl code CanF RV ret_int ret_bool info_parts)
open Go.Proofs.YtinlolmjafjhnaaGreatDoor.cls (Set_any Set_none Ans errS fitN shortN shortL own_sl i64s cells4 cells8 negP combP wideP withP IsP)
open Go.Proofs.YtinlolmjafjhnaaGreatDoor.fld (sim toldB tpts has_one sim_untold told_iff IsClo)

set_option maxRecDepth 100000 in
theorem ins0 (fv : Value) (w : World) : Calls Tryz.prog 203 #[.slice none 0 0, .int .i64 0, .int .i64 0, fv] w fun e w' => e = .returned (.tuple #[]) ∧ w' = w := by
 go_enter Tryz.func203, Tryz.ntmps203
 go_wp2
 refine wp_loop_rounds 1 ?_
 rw [rounds_succ]
 go_wp2
 go_end0
 exact ⟨rfl, rfl⟩
set_option maxRecDepth 100000 in
theorem stable0 (fv : Value) (w : World) : Calls Tryz.prog 155 #[.slice none 0 0, .int .i64 0, fv] w fun e w' => e = .returned (.tuple #[]) ∧ w' = w := by
 have C := ins0 fv w
 go_enter Tryz.func155, Tryz.ntmps155
 go_wp2
 refine wp_loop_rounds 1 ?_
 rw [rounds_succ]
 go_wp2_with (go_at_call 203; refine C.mono ?_; rintro e w1 ⟨rfl, rfl⟩)
 refine wp_loop_rounds 1 ?_
 rw [rounds_succ]
 go_wp2
 go_end0
 exact ⟨rfl, rfl⟩
set_option maxRecDepth 100000 in
theorem sortst0 (fv : Value) (w : World) : Calls Tryz.prog 110 #[.slice none 0 0, fv] w fun e w' => e = .returned (.tuple #[]) ∧ w' = w := by
 have C := stable0 fv w
 go_enter Tryz.func110, Tryz.ntmps110
 go_wp2_with (go_at_call 155; refine C.mono ?_; rintro e w1 ⟨rfl, rfl⟩)
 go_end0
 exact ⟨rfl, rfl⟩
set_option maxRecDepth 100000 in
theorem rising0 (w : World) : Calls Tryz.prog 74 #[.slice none 0 0] w fun e w' => e = .returned (.slice none 0 0) ∧ w' = w := by
 have C := fun fv => sortst0 fv w
 go_enter Tryz.func74, Tryz.ntmps74
 go_wp2_with (go_at_call 110; refine (C _).mono ?_; rintro e w1 ⟨rfl, rfl⟩)
 refine wp_loop_rounds 1 ?_
 rw [rounds_succ]
 go_wp2
 go_ret
 exact ⟨rfl, rfl⟩
set_option maxRecDepth 100000 in
theorem texts0 (tb : Nat) (av : Value) (w : World) (hT : prp.Tabs w tb) : Calls Tryz.prog 53 #[.pointer (some ⟨tb, 0, none⟩), av, .agg #[.bool false, .bool false, .bool false, .int .i64 1]] w fun e w' => e = .returned (.slice none 0 0) ∧ Below w.heap.size w w' := by
 have HB : Hid (Below w.heap.size w (w.alloc (.cells #[.bool false, .bool false, .bool false, .int .i64 1] 30))) := (Below.refl _ w).alloc (Nat.le_refl _) _
 have HO : Hid (Bk (w.alloc (.cells #[.bool false, .bool false, .bool false, .int .i64 1] 30)) w.heap.size #[.bool false, .bool false, .bool false, .int .i64 1] 30) := Bk.new w _ _
 have C := cls.made_any tb (w.alloc (.cells #[.bool false, .bool false, .bool false, .int .i64 1] 30)) (hT.below HB.out)
 have CR := fun W => rising0 W
 clear hT
 go_enter Tryz.func53, Tryz.ntmps53
 go_wp2_with (first
  | (go_at_call 45; refine C.mono ?_; rintro e w1 ⟨rfl, d⟩; have HB1 : Hid (Below w.heap.size w w1) := HB.out.trans (below_less d (by simp)); have o0 := (HO.out.on d).cell 0 (u := .bool false) rfl; have o3 := (HO.out.on d).cell 3 (u := .int .i64 1) rfl; clear d)
  | (go_at_call 74; refine (CR _).mono ?_; rintro e w2 ⟨rfl, rfl⟩))
 go_ret
 exact ⟨rfl, HB1.out⟩
set_option maxRecDepth 10000 in
theorem hasTexts1 (w : World) : Calls Tryz.prog 52 #[.agg #[.int .i64 1, .int .i64 0, .int .i64 97, .int .i64 0, .bool false, .string ⟨#[]⟩, .slice none 0 0, .slice none 0 0]] w fun e w' => e = .returned (.bool true) ∧ Below w.heap.size w w' := by
 have HB : Hid (Below w.heap.size w (w.alloc (.cells #[.int .i64 1, .int .i64 0, .int .i64 97, .int .i64 0, .bool false, .string ⟨#[]⟩, .slice none 0 0, .slice none 0 0] 25))) := (Below.refl _ w).alloc (Nat.le_refl _) _
 go_enter Tryz.func52, Tryz.ntmps52
 go_wp2
 go_ret
 exact ⟨rfl, HB.out⟩
theorem hasSet1 (w : World) : Calls Tryz.prog 23 #[.int .i64 1] w fun e w' => e = .returned (.bool true) ∧ w' = w := by
 go_enter Tryz.func23, Tryz.ntmps23; go_wp2; go_ret; exact ⟨rfl, rfl⟩
theorem hasSet6 (w : World) : Calls Tryz.prog 23 #[.int .i64 6] w fun e w' => e = .returned (.bool false) ∧ w' = w := by
 go_enter Tryz.func23, Tryz.ntmps23; go_wp2; go_ret; exact ⟨rfl, rfl⟩
theorem LC.off8 {w0 W : World} {mb tb k : Nat} (c : LC w0 W mb tb) (h1 : w0.heap.size ≤ k) (h2 : mb ≠ k) (x0 x1 x2 x3 x4 x5 x6 x7 : Value) : LC w0 ((((((((W.setCell ⟨k, 0, none⟩ x0).setCell ⟨k, 1, none⟩ x1).setCell ⟨k, 2, none⟩ x2).setCell ⟨k, 3, none⟩ x3).setCell ⟨k, 4, none⟩ x4).setCell ⟨k, 5, none⟩ x5).setCell ⟨k, 6, none⟩ x6).setCell ⟨k, 7, none⟩ x7) mb tb :=
 ⟨c.tabs, c.env, (((((((c.bel.setCell (p := ⟨k, 0, none⟩) h1 x0).setCell (p := ⟨k, 1, none⟩) h1 x1).setCell (p := ⟨k, 2, none⟩) h1 x2).setCell (p := ⟨k, 3, none⟩) h1 x3).setCell (p := ⟨k, 4, none⟩) h1 x4).setCell (p := ⟨k, 5, none⟩) h1 x5).setCell (p := ⟨k, 6, none⟩) h1 x6).setCell (p := ⟨k, 7, none⟩) h1 x7, c.ge, bk_off8 c.blk h2 _ _ _ _ _ _ _ _⟩
set_option maxHeartbeats 4000000 in
set_option maxRecDepth 1000000 in
theorem item_a {w0 W : World} {mb tb : Nat} (c : LC w0 W mb tb) : Calls Tryz.prog 25 #[.pointer (some ⟨mb, 0, none⟩), .agg #[.int .i64 1, .int .i64 0, .int .i64 97, .int .i64 0, .bool false, .string ⟨#[]⟩, .slice none 0 0, .slice none 0 0]] W fun e w' => ∃ a cp, e = .returned (S15 a cp) ∧ LC w0 w' mb tb ∧ Kp (some mb) W w' := by
 have HB : Hid (Below W.heap.size W ((W.alloc (.cells #[.int .i64 1, .int .i64 0, .int .i64 97, .int .i64 0, .bool false, .string ⟨#[]⟩, .slice none 0 0, .slice none 0 0] 25)).alloc (.cells #[.int .i64 0, .int .i64 0, .int .i64 0, .int .i64 0, .bool false, .string ⟨#[]⟩, .slice none 0 0, .slice none 0 0] 25))) := below2 _ _ _
 have HX : Hid (Bk ((W.alloc (.cells #[.int .i64 1, .int .i64 0, .int .i64 97, .int .i64 0, .bool false, .string ⟨#[]⟩, .slice none 0 0, .slice none 0 0] 25)).alloc (.cells #[.int .i64 0, .int .i64 0, .int .i64 0, .int .i64 0, .bool false, .string ⟨#[]⟩, .slice none 0 0, .slice none 0 0] 25)) W.heap.size #[.int .i64 1, .int .i64 0, .int .i64 97, .int .i64 0, .bool false, .string ⟨#[]⟩, .slice none 0 0, .slice none 0 0] 25) := (Bk.new W _ _).past _
 have HR : Hid (Bk ((W.alloc (.cells #[.int .i64 1, .int .i64 0, .int .i64 97, .int .i64 0, .bool false, .string ⟨#[]⟩, .slice none 0 0, .slice none 0 0] 25)).alloc (.cells #[.int .i64 0, .int .i64 0, .int .i64 0, .int .i64 0, .bool false, .string ⟨#[]⟩, .slice none 0 0, .slice none 0 0] 25)) (W.heap.size + 1) #[.int .i64 0, .int .i64 0, .int .i64 0, .int .i64 0, .bool false, .string ⟨#[]⟩, .slice none 0 0, .slice none 0 0] 25) := bk2
 have hz : ((W.alloc (.cells #[.int .i64 1, .int .i64 0, .int .i64 97, .int .i64 0, .bool false, .string ⟨#[]⟩, .slice none 0 0, .slice none 0 0] 25)).alloc (.cells #[.int .i64 0, .int .i64 0, .int .i64 0, .int .i64 0, .bool false, .string ⟨#[]⟩, .slice none 0 0, .slice none 0 0] 25)).heap.size = W.heap.size + 1 + 1 := by simp
 have CS := mset_a (c.on HB.out)
 have CT := fun W => hasTexts1 W
 have HX0 : Hid (∀ W' av, LC w0 W' mb tb → Calls Tryz.prog 53 #[.pointer (some ⟨tb, 0, none⟩), av, .agg #[.bool false, .bool false, .bool false, .int .i64 1]] W' fun e w' => e = .returned (.slice none 0 0) ∧ Below W'.heap.size W' w') := fun W' av h => texts0 tb av W' h.tb
 have hmb := c.blk.lt
 have hw0 := c.bel.size
 clear c
 go_enter Tryz.func25, Tryz.ntmps25
 go_wp2_with fail
 refine CS.mono ?_
 rintro e w1 ⟨a, cp, rfl, c1, k1⟩
 clear CS
 have HK1 : Hid (Kp (some mb) W (w1.alloc (.cells #[.int .i64 15, .int .i64 0, .int .i64 0, .int .i64 0, .bool false, .string ⟨#[]⟩, .slice a 2 cp, .slice none 0 0] 25))) := ((Kp.of_below HB.out).trans k1).alloc _
 have HC1 : Hid (LC w0 (w1.alloc (.cells #[.int .i64 15, .int .i64 0, .int .i64 0, .int .i64 0, .bool false, .string ⟨#[]⟩, .slice a 2 cp, .slice none 0 0] 25)) mb tb) := c1.on ((Below.refl _ _).alloc (Nat.le_refl _) _)
 have HX1 : Hid (Bk (w1.alloc (.cells #[.int .i64 15, .int .i64 0, .int .i64 0, .int .i64 0, .bool false, .string ⟨#[]⟩, .slice a 2 cp, .slice none 0 0] 25)) W.heap.size #[.int .i64 1, .int .i64 0, .int .i64 97, .int .i64 0, .bool false, .string ⟨#[]⟩, .slice none 0 0, .slice none 0 0] 25) := (HX.out.kp k1 (fun e => by cases e; omega)).past _
 have HR1 : Hid (Bk (w1.alloc (.cells #[.int .i64 15, .int .i64 0, .int .i64 0, .int .i64 0, .bool false, .string ⟨#[]⟩, .slice a 2 cp, .slice none 0 0] 25)) (W.heap.size + 1) #[.int .i64 0, .int .i64 0, .int .i64 0, .int .i64 0, .bool false, .string ⟨#[]⟩, .slice none 0 0, .slice none 0 0] 25) := (HR.out.kp k1 (fun e => by cases e; omega)).past _
 have HS1 : Hid (Bk (w1.alloc (.cells #[.int .i64 15, .int .i64 0, .int .i64 0, .int .i64 0, .bool false, .string ⟨#[]⟩, .slice a 2 cp, .slice none 0 0] 25)) w1.heap.size #[.int .i64 15, .int .i64 0, .int .i64 0, .int .i64 0, .bool false, .string ⟨#[]⟩, .slice a 2 cp, .slice none 0 0] 25) := Bk.new _ _ _
 have hw1 : W.heap.size + 1 + 1 ≤ w1.heap.size := by have := k1.size; omega
 clear c1 k1 HX HR HB
 unfold S15
 obtain ⟨x0, x1, x2, x3, x4, x5, x6, x7⟩ := cells8 HX1.out
 go_wp2_with fail
 refine (CT _).mono ?_
 rintro e w2 ⟨rfl, b2⟩
 clear CT x0 x1 x2 x3 x4 x5 x6 x7
 have HC2 : Hid (LC w0 w2 mb tb) := HC1.out.on b2
 have HK2 : Hid (Kp (some mb) W w2) := HK1.out.trans (Kp.of_below b2)
 have HR2 : Hid (Bk w2 (W.heap.size + 1) #[.int .i64 0, .int .i64 0, .int .i64 0, .int .i64 0, .bool false, .string ⟨#[]⟩, .slice none 0 0, .slice none 0 0] 25) := HR1.out.on b2
 have HS2 : Hid (Bk w2 w1.heap.size #[.int .i64 15, .int .i64 0, .int .i64 0, .int .i64 0, .bool false, .string ⟨#[]⟩, .slice a 2 cp, .slice none 0 0] 25) := HS1.out.on b2
 clear b2 HC1 HK1 HR1 HS1 HX1
 have y0 := HC2.out.blk.cell 0 (u := .pointer (some ⟨tb, 0, none⟩)) rfl
 have y1 := HC2.out.blk.cell 1 (u := .bool false) rfl
 have y2 := HC2.out.blk.cell 2 (u := .bool false) rfl
 have y3 := HC2.out.blk.cell 3 (u := .bool false) rfl
 have y4 := HC2.out.blk.cell 4 (u := .int .i64 1) rfl
 have y6 := HS2.out.cell 6 (u := .slice a 2 cp) rfl
 go_wp2
 go_region_held3 (fun w' => w'.cell? ⟨mb, 0, none⟩ = some (.pointer (some ⟨tb, 0, none⟩)) ∧ w'.cell? ⟨mb, 1, none⟩ = some (.bool false) ∧ w'.cell? ⟨mb, 2, none⟩ = some (.bool false) ∧ w'.cell? ⟨mb, 3, none⟩ = some (.bool false) ∧ w'.cell? ⟨mb, 4, none⟩ = some (.int .i64 1) ∧ w'.cell? ⟨w1.heap.size, 6, none⟩ = some (.slice a 2 cp)) (go_keep) (
  (go_at_call 53; refine (HX0.out _ _ (HC2.out.on (Below.refl _ w2).drew)).mono ?_; rintro e w3 ⟨rfl, b0⟩; have b1 : Below w2.heap.size w2 w3 := (Below.refl _ w2).drew.trans b0; have HC3 : Hid (LC w0 w3 mb tb) := HC2.out.on b1; have HK3 : Hid (Kp (some mb) W w3) := HK2.out.trans (Kp.of_below b1); have HR3 : Hid (Bk w3 (W.heap.size + 1) #[.int .i64 0, .int .i64 0, .int .i64 0, .int .i64 0, .bool false, .string ⟨#[]⟩, .slice none 0 0, .slice none 0 0] 25) := HR2.out.on b1; have z := open8 (HR2.out.on b1); have z8 := cells8 (HS2.out.on b1); have z0 := (HC2.out.on b1).blk.cell 0 (u := .pointer (some ⟨tb, 0, none⟩)) rfl; have z1 := (HC2.out.on b1).blk.cell 1 (u := .bool false) rfl; have z2 := (HC2.out.on b1).blk.cell 2 (u := .bool false) rfl; have z3 := (HC2.out.on b1).blk.cell 3 (u := .bool false) rfl; have z4 := (HC2.out.on b1).blk.cell 4 (u := .int .i64 1) rfl; clear b0 b1))
 all_goals go_wp2
 all_goals (refine bodyPost_ret (results_cell_row Tryz.results25 _ _ (W.heap.size + 1) _ #[.int .i64 15, .int .i64 0, .int .i64 0, .int .i64 0, .bool false, .string ⟨#[]⟩, .slice a 2 cp, .slice none 0 0] _ _ rfl (bk_set8 HR3.out _ _ _ _ _ _ _ _) Tryz.underlying25 rfl infoNode) rfl ?_)
 all_goals (
  have k2 := kp_set8 (k := W.heap.size + 1) HK3.out (by omega) (.int .i64 15) (.int .i64 0) (.int .i64 0) (.int .i64 0) (.bool false) (.string ⟨#[]⟩) (.slice a 2 cp) (.slice none 0 0)
  exact ⟨a, cp, rfl, HC3.out.off8 (k := W.heap.size + 1) (by omega) (by omega) _ _ _ _ _ _ _ _, k2⟩)
end Go.Proofs.YtinlolmjafjhnaaGreatDoor.low
end

section
/- walk.from over nodes, as lower hands it on, at the letter a. -/
set_option linter.unusedVariables false
set_option linter.unusedSimpArgs false
namespace Go.Proofs.YtinlolmjafjhnaaGreatDoor.low
open Go.RowKit nod
open Go.Proofs.YtinlolmjafjhnaaGreatDoor.rng (R has IsSet Sl code CanF RV ret_int ret_bool info_parts)
open Go.Proofs.YtinlolmjafjhnaaGreatDoor.cls (Set_any Set_none Ans errS fitN shortN shortL own_sl i64s cells4 cells8 negP combP wideP withP IsP)
open Go.Proofs.YtinlolmjafjhnaaGreatDoor.fld (sim toldB tpts has_one sim_untold told_iff IsClo)

theorem infoNd : (Tryz.prog.info? 25).map (fun i => (i.zero, i.size, i.bytes)) = some (some (.agg #[.int .i64 0, .int .i64 0, .int .i64 0, .int .i64 0, .bool false, .string ⟨#[]⟩, .slice none 0 0, .slice none 0 0]), 8, 104) := by kernel_rfl
theorem enter_a (above : Int) (w : World) : Calls Tryz.prog 22 #[.agg #[.int .i64 1, .int .i64 0, .int .i64 97, .int .i64 0, .bool false, .string ⟨#[]⟩, .slice none 0 0, .slice none 0 0], .int .i64 above] w fun e w' => e = .returned (.bool false) ∧ Below w.heap.size w w' := by
 have HB : Hid (Below w.heap.size w (w.alloc (.cells #[.int .i64 1, .int .i64 0, .int .i64 97, .int .i64 0, .bool false, .string ⟨#[]⟩, .slice none 0 0, .slice none 0 0] 25))) := (Below.refl _ w).alloc (Nat.le_refl _) _
 have C := fun W => hasSet1 W
 go_enter Tryz.func22, Tryz.ntmps22
 go_wp2_with (go_at_call 23; refine (C _).mono ?_; rintro e w1 ⟨rfl, rfl⟩)
 go_ret
 exact ⟨rfl, HB.out⟩
theorem enter_s (kb : Nat) (above : Int) (w : World) : Calls Tryz.prog 22 #[.agg #[.int .i64 6, .int .i64 0, .int .i64 0, .int .i64 0, .bool false, .string ⟨#[]⟩, .slice none 0 0, .slice (some ⟨kb, 0, none⟩) 1 1], .int .i64 above] w fun e w' => e = .returned (.bool true) ∧ Below w.heap.size w w' := by
 have HB : Hid (Below w.heap.size w (w.alloc (.cells #[.int .i64 6, .int .i64 0, .int .i64 0, .int .i64 0, .bool false, .string ⟨#[]⟩, .slice none 0 0, .slice (some ⟨kb, 0, none⟩) 1 1] 25))) := (Below.refl _ w).alloc (Nat.le_refl _) _
 have C := fun W => hasSet6 W
 go_enter Tryz.func22, Tryz.ntmps22
 go_wp2_with (go_at_call 23; refine (C _).mono ?_; rintro e w1 ⟨rfl, rfl⟩)
 go_ret
 exact ⟨rfl, HB.out⟩
set_option maxHeartbeats 4000000 in
set_option maxRecDepth 1000000 in
theorem join_a {w0 W : World} {mb tb : Nat} (c : LC w0 W mb tb) : Calls Tryz.prog 24 #[.agg #[.int .i64 1, .int .i64 0, .int .i64 97, .int .i64 0, .bool false, .string ⟨#[]⟩, .slice none 0 0, .slice none 0 0], .slice none 0 0, .pointer (some ⟨mb, 0, none⟩)] W fun e w' => ∃ a cp, e = .returned (S15 a cp) ∧ LC w0 w' mb tb ∧ Kp (some mb) W w' := by
 have HB : Hid (Below W.heap.size W ((W.alloc (.cells #[.int .i64 1, .int .i64 0, .int .i64 97, .int .i64 0, .bool false, .string ⟨#[]⟩, .slice none 0 0, .slice none 0 0] 25)).alloc (.cells #[.int .i64 0, .int .i64 0, .int .i64 0, .int .i64 0, .bool false, .string ⟨#[]⟩, .slice none 0 0, .slice none 0 0] 25))) := below2 _ _ _
 have HX : Hid (Bk ((W.alloc (.cells #[.int .i64 1, .int .i64 0, .int .i64 97, .int .i64 0, .bool false, .string ⟨#[]⟩, .slice none 0 0, .slice none 0 0] 25)).alloc (.cells #[.int .i64 0, .int .i64 0, .int .i64 0, .int .i64 0, .bool false, .string ⟨#[]⟩, .slice none 0 0, .slice none 0 0] 25)) W.heap.size #[.int .i64 1, .int .i64 0, .int .i64 97, .int .i64 0, .bool false, .string ⟨#[]⟩, .slice none 0 0, .slice none 0 0] 25) := (Bk.new W _ _).past _
 have HR : Hid (Bk ((W.alloc (.cells #[.int .i64 1, .int .i64 0, .int .i64 97, .int .i64 0, .bool false, .string ⟨#[]⟩, .slice none 0 0, .slice none 0 0] 25)).alloc (.cells #[.int .i64 0, .int .i64 0, .int .i64 0, .int .i64 0, .bool false, .string ⟨#[]⟩, .slice none 0 0, .slice none 0 0] 25)) (W.heap.size + 1) #[.int .i64 0, .int .i64 0, .int .i64 0, .int .i64 0, .bool false, .string ⟨#[]⟩, .slice none 0 0, .slice none 0 0] 25) := bk2
 have hz : ((W.alloc (.cells #[.int .i64 1, .int .i64 0, .int .i64 97, .int .i64 0, .bool false, .string ⟨#[]⟩, .slice none 0 0, .slice none 0 0] 25)).alloc (.cells #[.int .i64 0, .int .i64 0, .int .i64 0, .int .i64 0, .bool false, .string ⟨#[]⟩, .slice none 0 0, .slice none 0 0] 25)).heap.size = W.heap.size + 1 + 1 := by simp
 have CS := item_a (c.on HB.out)
 have CH := fun W => hasSet1 W
 have hmb := c.blk.lt
 have hw0 := c.bel.size
 clear c
 go_enter Tryz.func24, Tryz.ntmps24
 go_wp2_with fail
 refine (CH _).mono ?_
 rintro e w1 ⟨rfl, rfl⟩
 go_wp2_with fail
 refine CS.mono ?_
 rintro e w1 ⟨a, cp, rfl, c1, k1⟩
 clear CS CH
 have HC1 : Hid (LC w0 w1 mb tb) := c1
 have HK1 : Hid (Kp (some mb) W w1) := (Kp.of_below HB.out).trans k1
 have HR1 : Hid (Bk w1 (W.heap.size + 1) #[.int .i64 0, .int .i64 0, .int .i64 0, .int .i64 0, .bool false, .string ⟨#[]⟩, .slice none 0 0, .slice none 0 0] 25) := HR.out.kp k1 (fun e => by cases e; omega)
 clear c1 k1 HX HR HB
 obtain ⟨⟨x0, x1, x2, x3, x4, x5, x6, x7⟩, y0, y1, y2, y3, y4, y5, y6, y7⟩ := open8 HR1.out
 unfold S15
 go_wp2
 refine bodyPost_ret (results_cell_row Tryz.results24 _ _ (W.heap.size + 1) _ #[.int .i64 15, .int .i64 0, .int .i64 0, .int .i64 0, .bool false, .string ⟨#[]⟩, .slice a 2 cp, .slice none 0 0] _ _ rfl (bk_set8 HR1.out _ _ _ _ _ _ _ _) Tryz.underlying25 rfl infoNode) rfl ?_
 exact ⟨a, cp, rfl, HC1.out.off8 (k := W.heap.size + 1) (by omega) (by omega) _ _ _ _ _ _ _ _, kp_set8 HK1.out (by omega) _ _ _ _ _ _ _ _⟩
set_option maxHeartbeats 4000000 in
set_option maxRecDepth 1000000 in
theorem join_s (kb g cap : Nat) (mv : Value) (W : World) : Calls Tryz.prog 24 #[.agg #[.int .i64 6, .int .i64 0, .int .i64 0, .int .i64 0, .bool false, .string ⟨#[]⟩, .slice none 0 0, .slice (some ⟨kb, 0, none⟩) 1 1], .slice (some ⟨g, 0, none⟩) 1 cap, mv] W fun e w' => e = .returned (.agg #[.int .i64 6, .int .i64 0, .int .i64 0, .int .i64 0, .bool false, .string ⟨#[]⟩, .slice none 0 0, .slice (some ⟨g, 0, none⟩) 1 cap]) ∧ Below W.heap.size W w' := by
 have HB : Hid (Below W.heap.size W ((W.alloc (.cells #[.int .i64 6, .int .i64 0, .int .i64 0, .int .i64 0, .bool false, .string ⟨#[]⟩, .slice none 0 0, .slice (some ⟨kb, 0, none⟩) 1 1] 25)).alloc (.cells #[.int .i64 0, .int .i64 0, .int .i64 0, .int .i64 0, .bool false, .string ⟨#[]⟩, .slice none 0 0, .slice none 0 0] 25))) := below2 _ _ _
 have HX : Hid (Bk ((W.alloc (.cells #[.int .i64 6, .int .i64 0, .int .i64 0, .int .i64 0, .bool false, .string ⟨#[]⟩, .slice none 0 0, .slice (some ⟨kb, 0, none⟩) 1 1] 25)).alloc (.cells #[.int .i64 0, .int .i64 0, .int .i64 0, .int .i64 0, .bool false, .string ⟨#[]⟩, .slice none 0 0, .slice none 0 0] 25)) W.heap.size #[.int .i64 6, .int .i64 0, .int .i64 0, .int .i64 0, .bool false, .string ⟨#[]⟩, .slice none 0 0, .slice (some ⟨kb, 0, none⟩) 1 1] 25) := (Bk.new W _ _).past _
 have HR : Hid (Bk ((W.alloc (.cells #[.int .i64 6, .int .i64 0, .int .i64 0, .int .i64 0, .bool false, .string ⟨#[]⟩, .slice none 0 0, .slice (some ⟨kb, 0, none⟩) 1 1] 25)).alloc (.cells #[.int .i64 0, .int .i64 0, .int .i64 0, .int .i64 0, .bool false, .string ⟨#[]⟩, .slice none 0 0, .slice none 0 0] 25)) (W.heap.size + 1) #[.int .i64 0, .int .i64 0, .int .i64 0, .int .i64 0, .bool false, .string ⟨#[]⟩, .slice none 0 0, .slice none 0 0] 25) := bk2
 have CH := fun W => hasSet6 W
 go_enter Tryz.func24, Tryz.ntmps24
 go_wp2_with fail
 refine (CH _).mono ?_
 rintro e w1 ⟨rfl, rfl⟩
 clear CH
 generalize (W.alloc (.cells #[.int .i64 6, .int .i64 0, .int .i64 0, .int .i64 0, .bool false, .string ⟨#[]⟩, .slice none 0 0, .slice (some ⟨kb, 0, none⟩) 1 1] 25)).alloc (.cells #[.int .i64 0, .int .i64 0, .int .i64 0, .int .i64 0, .bool false, .string ⟨#[]⟩, .slice none 0 0, .slice none 0 0] 25) = W1 at *
 obtain ⟨⟨x0, x1, x2, x3, x4, x5, x6, x7⟩, y0, y1, y2, y3, y4, y5, y6, y7⟩ := open8 HX.out
 have HX2 : Hid (Bk ((W1.setCell ⟨W.heap.size, 6, none⟩ (.slice none 0 0)).setCell ⟨W.heap.size, 7, none⟩ (.slice (some ⟨g, 0, none⟩) 1 cap)) W.heap.size #[.int .i64 6, .int .i64 0, .int .i64 0, .int .i64 0, .bool false, .string ⟨#[]⟩, .slice none 0 0, .slice (some ⟨g, 0, none⟩) 1 cap] 25) := by
  have := (HX.out.set 6 (.slice none 0 0)).set 7 (.slice (some ⟨g, 0, none⟩) 1 cap)
  simpa [Hid] using this
 have HR2 : Hid (Bk ((W1.setCell ⟨W.heap.size, 6, none⟩ (.slice none 0 0)).setCell ⟨W.heap.size, 7, none⟩ (.slice (some ⟨g, 0, none⟩) 1 cap)) (W.heap.size + 1) #[.int .i64 0, .int .i64 0, .int .i64 0, .int .i64 0, .bool false, .string ⟨#[]⟩, .slice none 0 0, .slice none 0 0] 25) := (HR.out.apart (by omega) _).apart (by omega) _
 have y8 : (W1.setCell ⟨W.heap.size, 6, none⟩ (.slice none 0 0)).cell? ⟨W.heap.size, 7, none⟩ = some (.slice (some ⟨kb, 0, none⟩) 1 1) := (HX.out.set 6 (.slice none 0 0)).cell 7 rfl
 have y9 : (W1.setCell ⟨W.heap.size, 6, none⟩ (.slice none 0 0)).frozen? ⟨W.heap.size, 7, none⟩ = false := (HX.out.set 6 (.slice none 0 0)).frozen 7
 have u := cells8 HX2.out
 have v := open8 HR2.out
 go_wp2
 refine bodyPost_ret (results_cell_row Tryz.results24 _ _ (W.heap.size + 1) _ #[.int .i64 6, .int .i64 0, .int .i64 0, .int .i64 0, .bool false, .string ⟨#[]⟩, .slice none 0 0, .slice (some ⟨g, 0, none⟩) 1 cap] _ _ rfl (bk_set8 HR2.out _ _ _ _ _ _ _ _) Tryz.underlying25 rfl infoNode) rfl ?_
 exact ⟨rfl, (kp_set8 (k := W.heap.size + 1) (((Kp.of_below (E := none) HB.out).setCell (p := ⟨W.heap.size, 6, none⟩) (.inl (by simp)) _).setCell (p := ⟨W.heap.size, 7, none⟩) (.inl (by simp)) _) (by omega) _ _ _ _ _ _ _ _).none⟩
set_option maxHeartbeats 4000000 in
set_option maxRecDepth 1000000 in
theorem from_a {w0 W : World} {mb tb : Nat} (above : Int) (c : LC w0 W mb tb) : Calls Tryz.prog 50 #[.agg #[.int .i64 1, .int .i64 0, .int .i64 97, .int .i64 0, .bool false, .string ⟨#[]⟩, .slice none 0 0, .slice none 0 0], .int .i64 above, .func (.func 22) #[] #[], .func (.func 24) #[] #[.pointer (some ⟨mb, 0, none⟩)]] W fun e w' => ∃ a cp, e = .returned (S15 a cp) ∧ LC w0 w' mb tb ∧ Kp (some mb) W w' := by
 have HB : Hid (Below W.heap.size W ((W.alloc (.cells #[.int .i64 1, .int .i64 0, .int .i64 97, .int .i64 0, .bool false, .string ⟨#[]⟩, .slice none 0 0, .slice none 0 0] 25)).alloc (.cells #[.int .i64 0, .int .i64 0, .int .i64 0, .int .i64 0, .bool false, .string ⟨#[]⟩, .slice none 0 0, .slice none 0 0] 25))) := below2 _ _ _
 have HX : Hid (Bk ((W.alloc (.cells #[.int .i64 1, .int .i64 0, .int .i64 97, .int .i64 0, .bool false, .string ⟨#[]⟩, .slice none 0 0, .slice none 0 0] 25)).alloc (.cells #[.int .i64 0, .int .i64 0, .int .i64 0, .int .i64 0, .bool false, .string ⟨#[]⟩, .slice none 0 0, .slice none 0 0] 25)) W.heap.size #[.int .i64 1, .int .i64 0, .int .i64 97, .int .i64 0, .bool false, .string ⟨#[]⟩, .slice none 0 0, .slice none 0 0] 25) := (Bk.new W _ _).past _
 have HR : Hid (Bk ((W.alloc (.cells #[.int .i64 1, .int .i64 0, .int .i64 97, .int .i64 0, .bool false, .string ⟨#[]⟩, .slice none 0 0, .slice none 0 0] 25)).alloc (.cells #[.int .i64 0, .int .i64 0, .int .i64 0, .int .i64 0, .bool false, .string ⟨#[]⟩, .slice none 0 0, .slice none 0 0] 25)) (W.heap.size + 1) #[.int .i64 0, .int .i64 0, .int .i64 0, .int .i64 0, .bool false, .string ⟨#[]⟩, .slice none 0 0, .slice none 0 0] 25) := bk2
 have hz : ((W.alloc (.cells #[.int .i64 1, .int .i64 0, .int .i64 97, .int .i64 0, .bool false, .string ⟨#[]⟩, .slice none 0 0, .slice none 0 0] 25)).alloc (.cells #[.int .i64 0, .int .i64 0, .int .i64 0, .int .i64 0, .bool false, .string ⟨#[]⟩, .slice none 0 0, .slice none 0 0] 25)).heap.size = W.heap.size + 1 + 1 := by simp
 have CE := enter_a above ((W.alloc (.cells #[.int .i64 1, .int .i64 0, .int .i64 97, .int .i64 0, .bool false, .string ⟨#[]⟩, .slice none 0 0, .slice none 0 0] 25)).alloc (.cells #[.int .i64 0, .int .i64 0, .int .i64 0, .int .i64 0, .bool false, .string ⟨#[]⟩, .slice none 0 0, .slice none 0 0] 25))
 have HJ : Hid (∀ W', LC w0 W' mb tb → Calls Tryz.prog 24 #[.agg #[.int .i64 1, .int .i64 0, .int .i64 97, .int .i64 0, .bool false, .string ⟨#[]⟩, .slice none 0 0, .slice none 0 0], .slice none 0 0, .pointer (some ⟨mb, 0, none⟩)] W' fun e w' => ∃ a cp, e = .returned (S15 a cp) ∧ LC w0 w' mb tb ∧ Kp (some mb) W' w') := fun W' h => join_a h
 have HC : Hid (LC w0 W mb tb) := c
 have hmb := c.blk.lt
 have hw0 := c.bel.size
 clear c
 go_enter Tryz.func50, Tryz.ntmps50
 go_wp2_with fail
 refine CE.mono ?_
 rintro e w1 ⟨rfl, b1⟩
 clear CE
 have HC1 : Hid (LC w0 w1 mb tb) := (HC.out.on HB.out).on b1
 have HK1 : Hid (Kp (some mb) W w1) := (Kp.of_below HB.out).trans (Kp.of_below b1)
 have HR1 : Hid (Bk w1 (W.heap.size + 1) #[.int .i64 0, .int .i64 0, .int .i64 0, .int .i64 0, .bool false, .string ⟨#[]⟩, .slice none 0 0, .slice none 0 0] 25) := HR.out.on b1
 obtain ⟨x0, x1, x2, x3, x4, x5, x6, x7⟩ := cells8 (HX.out.on b1)
 clear b1 HX HR HB HC
 have CJ := HJ.out w1 HC1.out
 go_wp2_with fail
 refine CJ.mono ?_
 rintro e w2 ⟨a, cp, rfl, c2, k2⟩
 clear CJ HJ x0 x1 x2 x3 x4 x5 x6 x7
 have HC2 : Hid (LC w0 w2 mb tb) := c2
 have HK2 : Hid (Kp (some mb) W w2) := HK1.out.trans k2
 have HR2 : Hid (Bk w2 (W.heap.size + 1) #[.int .i64 0, .int .i64 0, .int .i64 0, .int .i64 0, .bool false, .string ⟨#[]⟩, .slice none 0 0, .slice none 0 0] 25) := HR1.out.kp k2 (fun e => by cases e; omega)
 clear c2 k2 HR1 HK1 HC1
 obtain ⟨⟨x0, x1, x2, x3, x4, x5, x6, x7⟩, y0, y1, y2, y3, y4, y5, y6, y7⟩ := open8 HR2.out
 unfold S15
 go_wp2
 refine bodyPost_ret (results_cell_row Tryz.results50 _ _ (W.heap.size + 1) _ #[.int .i64 15, .int .i64 0, .int .i64 0, .int .i64 0, .bool false, .string ⟨#[]⟩, .slice a 2 cp, .slice none 0 0] _ _ rfl (bk_set8 HR2.out _ _ _ _ _ _ _ _) Tryz.underlying25 rfl infoNode) rfl ?_
 exact ⟨a, cp, rfl, HC2.out.off8 (k := W.heap.size + 1) (by omega) (by omega) _ _ _ _ _ _ _ _, kp_set8 HK2.out (by omega) _ _ _ _ _ _ _ _⟩
end Go.Proofs.YtinlolmjafjhnaaGreatDoor.low
end
