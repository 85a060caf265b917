/- Texts that the proof leans on, one behind the other. -/
import Derived.Test.YtinlolmjafjhnaaGreatDoorBdCls3
import Derived.Test.YtinlolmjafjhnaaGreatDoorBdPrp7
import Derived.Test.YtinlolmjafjhnaaGreatDoorBdFld1
import Derived.Test.YtinlolmjafjhnaaGreatDoorBdNod1
import Derived.Deep.RegionHeld3
import Derived.Deep.RegionWith

section
/- class.Set at any node, by tables that a call made and by tables that none made; newMaker, made. -/
set_option linter.unusedVariables false
set_option linter.unusedSimpArgs false
namespace Go.Proofs.YtinlolmjafjhnaaGreatDoor.cls
open Go.RowKit
open Go.Proofs.YtinlolmjafjhnaaGreatDoor.rng (R has IsSet Sl code CanF RV)
open Go.Proofs.YtinlolmjafjhnaaGreatDoor.dcp (sinL fullL)
open Go.Proofs.YtinlolmjafjhnaaGreatDoor.nod

theorem infoMaker : (Tryz.prog.info? 81).map (·.size) = some 6 := by kernel_rfl
theorem Bk.set6 {w : World} {g : Nat} {a0 a1 a2 a3 a4 a5 : Value} {t : TypeId} (h : Bk w g #[a0, a1, a2, a3, a4, a5] t) (x0 x1 x2 x3 x4 x5 : Value) : Bk ((((((w.setCell ⟨g, 0, none⟩ x0).setCell ⟨g, 1, none⟩ x1).setCell ⟨g, 2, none⟩ x2).setCell ⟨g, 3, none⟩ x3).setCell ⟨g, 4, none⟩ x4).setCell ⟨g, 5, none⟩ x5) g #[x0, x1, x2, x3, x4, x5] t := by
 have := (((((h.set 0 x0).set 1 x1).set 2 x2).set 3 x3).set 4 x4).set 5 x5
 simpa using this
theorem cells8 {W : World} {h : Nat} {T : TypeId} {k0 k1 k2 k3 k4 k5 k6 k7 : Value} (BN : Bk W h #[k0, k1, k2, k3, k4, k5, k6, k7] T) : W.cell? ⟨h, 0, none⟩ = some k0 ∧ W.cell? ⟨h, 1, none⟩ = some k1 ∧ W.cell? ⟨h, 2, none⟩ = some k2 ∧ W.cell? ⟨h, 3, none⟩ = some k3 ∧ W.cell? ⟨h, 4, none⟩ = some k4 ∧ W.cell? ⟨h, 5, none⟩ = some k5 ∧ W.cell? ⟨h, 6, none⟩ = some k6 ∧ W.cell? ⟨h, 7, none⟩ = some k7 :=
 ⟨BN.cell 0 rfl, BN.cell 1 rfl, BN.cell 2 rfl, BN.cell 3 rfl, BN.cell 4 rfl, BN.cell 5 rfl, BN.cell 6 rfl, BN.cell 7 rfl⟩
theorem cells4 {W : World} {h : Nat} {T : TypeId} {k0 k1 k2 k3 : Value} (BN : Bk W h #[k0, k1, k2, k3] T) : W.cell? ⟨h, 0, none⟩ = some k0 ∧ W.cell? ⟨h, 1, none⟩ = some k1 ∧ W.cell? ⟨h, 2, none⟩ = some k2 ∧ W.cell? ⟨h, 3, none⟩ = some k3 := ⟨BN.cell 0 rfl, BN.cell 1 rfl, BN.cell 2 rfl, BN.cell 3 rfl⟩
theorem own_setCell {w : World} {B e size n : Nat} {v : Value} {xs : List Value} {g i : Nat} {u : Value} (h : w.ownsRow B e size v n xs) (hne : v.ownBlock ≠ some g) : (w.setCell ⟨g, i, none⟩ u).ownsRow B e size v n xs := by
 refine ⟨h.1, ?_⟩
 rcases h.2 with hn | ⟨g', cap, cur, rfl, hg, hgg, rest⟩
 ·exact .inl hn
 ·exact .inr ⟨g', cap, cur, rfl, hg, (Below.heap_setCell _ _ _ _ (fun e => hne (by rw [show g' = g from e]; rfl))).trans hgg, rest⟩
theorem below_set6 {w W : World} {g : Nat} (hb : Below w.heap.size w W) (hg : w.heap.size ≤ g) (x0 x1 x2 x3 x4 x5 : Value) : Below w.heap.size w ((((((W.setCell ⟨g, 0, none⟩ x0).setCell ⟨g, 1, none⟩ x1).setCell ⟨g, 2, none⟩ x2).setCell ⟨g, 3, none⟩ x3).setCell ⟨g, 4, none⟩ x4).setCell ⟨g, 5, none⟩ x5) :=
 (((((hb.setCell (p := ⟨g, 0, none⟩) hg x0).setCell (p := ⟨g, 1, none⟩) hg x1).setCell (p := ⟨g, 2, none⟩) hg x2).setCell (p := ⟨g, 3, none⟩) hg x3).setCell (p := ⟨g, 4, none⟩) hg x4).setCell (p := ⟨g, 5, none⟩) hg x5
set_option maxHeartbeats 1000000 in
theorem maker_no (tb : Nat) (d mu : Bool) (fo : Int) (w : World) :
  Calls Tryz.prog 47 #[.pointer (some ⟨tb, 0, none⟩), .agg #[.bool false, .bool d, .bool mu, .int .i64 fo]] w fun e w' => e = .returned (.agg #[.pointer (some ⟨tb, 0, none⟩), .bool false, .bool d, .bool mu, .int .i64 fo, .slice none 0 0]) ∧ Below w.heap.size w w' := by
 go_enter Tryz.func47, Tryz.ntmps47
 go_wp2
 refine bodyPost_ret (results_cell_row Tryz.results47 _ _ (w.heap.size + 1) _ #[.pointer (some ⟨tb, 0, none⟩), .bool false, .bool d, .bool mu, .int .i64 fo, .slice none 0 0] _ _ rfl (bk2.past _) Tryz.underlying81 rfl infoMaker) rfl ?_
 exact ⟨rfl, (below2 w _ _).alloc (by simp; omega) _⟩
set_option maxHeartbeats 2000000 in
theorem maker_yes (tb : Nat) (d mu : Bool) (fo : Int) (w : World) (hT : prp.Tabs w tb) (hE : prp.Env w) :
  Calls Tryz.prog 47 #[.pointer (some ⟨tb, 0, none⟩), .agg #[.bool true, .bool d, .bool mu, .int .i64 fo]] w fun e w' => ∃ sa sn sc, e = .returned (.agg #[.pointer (some ⟨tb, 0, none⟩), .bool true, .bool d, .bool mu, .int .i64 fo, .slice sa sn sc]) ∧ sinL.length = sn ∧ prp.IV w' (.slice sa sn sc) sinL ∧ Below w.heap.size w w' := by
 have B0 : Below w.heap.size w (((w.alloc (.cells #[.bool true, .bool d, .bool mu, .int .i64 fo] 30)).alloc (.cells #[.pointer none, .bool false, .bool false, .bool false, .int .i64 0, .slice none 0 0] 81)).alloc (.cells #[.pointer (some ⟨tb, 0, none⟩), .bool true, .bool d, .bool mu, .int .i64 fo, .slice none 0 0] 81)) := (below2 w _ _).alloc (by simp; omega) _
 have C := dcp.sins_any tb _ (hT.below B0) (hE.below B0)
 have bz : Bk (((w.alloc (.cells #[.bool true, .bool d, .bool mu, .int .i64 fo] 30)).alloc (.cells #[.pointer none, .bool false, .bool false, .bool false, .int .i64 0, .slice none 0 0] 81)).alloc (.cells #[.pointer (some ⟨tb, 0, none⟩), .bool true, .bool d, .bool mu, .int .i64 fo, .slice none 0 0] 81)) (w.heap.size + 1) #[.pointer none, .bool false, .bool false, .bool false, .int .i64 0, .slice none 0 0] 81 := bk2.past _
 have bm : Bk (((w.alloc (.cells #[.bool true, .bool d, .bool mu, .int .i64 fo] 30)).alloc (.cells #[.pointer none, .bool false, .bool false, .bool false, .int .i64 0, .slice none 0 0] 81)).alloc (.cells #[.pointer (some ⟨tb, 0, none⟩), .bool true, .bool d, .bool mu, .int .i64 fo, .slice none 0 0] 81)) (w.heap.size + 1 + 1) #[.pointer (some ⟨tb, 0, none⟩), .bool true, .bool d, .bool mu, .int .i64 fo, .slice none 0 0] 81 := by
  have := Bk.new ((w.alloc (.cells #[.bool true, .bool d, .bool mu, .int .i64 fo] 30)).alloc (.cells #[.pointer none, .bool false, .bool false, .bool false, .int .i64 0, .slice none 0 0] 81)) #[.pointer (some ⟨tb, 0, none⟩), .bool true, .bool d, .bool mu, .int .i64 fo, .slice none 0 0] 81
  simpa using this
 have HBZ : Hid (Bk _ (w.heap.size + 1) #[.pointer none, .bool false, .bool false, .bool false, .int .i64 0, .slice none 0 0] 81) := bz
 have HBM : Hid (Bk _ (w.heap.size + 1 + 1) #[.pointer (some ⟨tb, 0, none⟩), .bool true, .bool d, .bool mu, .int .i64 fo, .slice none 0 0] 81) := bm
 have HB0 : Hid (Below w.heap.size w _) := B0
 clear hT hE B0 bz bm
 go_enter Tryz.func47, Tryz.ntmps47
 go_wp2_with fail
 refine C.mono ?_
 rintro e w1 ⟨v, rfl, o1, b1⟩
 clear C
 obtain ⟨sa, sc, hv⟩ := lin.own_slice o1
 subst hv
 have bz := HBZ.out.on b1
 have bm := HBM.out.on b1
 have HIV : Hid (prp.IOwn w1 w.heap.size (.slice sa sinL.length sc) sinL) := rng.own_mono o1 HB0.out.size
 have HB1 : Hid (Below w.heap.size w w1) := HB0.out.trans (b1.mono HB0.out.size)
 clear HBZ HBM HB0 b1 o1
 obtain ⟨sn, hsn⟩ : ∃ x, sinL.length = x := ⟨_, rfl⟩
 have HSN : Hid (sinL.length = sn) := hsn
 rw [hsn] at HIV ⊢
 have f5 := bm.frozen 5
 have g5 := bm.cell 5 (u := .slice none 0 0) rfl
 have bs : Bk (w1.setCell ⟨w.heap.size + 1 + 1, 5, none⟩ (.slice sa sn sc)) (w.heap.size + 1 + 1) #[.pointer (some ⟨tb, 0, none⟩), .bool true, .bool d, .bool mu, .int .i64 fo, .slice sa sn sc] 81 := by have := bm.set 5 (.slice sa sn sc); simpa using this
 have bt := bz.apart (k := w.heap.size + 1 + 1) (i := 5) (by omega) (.slice sa sn sc)
 have x0 := bs.cell 0 (u := .pointer (some ⟨tb, 0, none⟩)) rfl
 have x1 := bs.cell 1 (u := .bool true) rfl
 have x2 := bs.cell 2 (u := .bool d) rfl
 have x3 := bs.cell 3 (u := .bool mu) rfl
 have x4 := bs.cell 4 (u := .int .i64 fo) rfl
 have x5 := bs.cell 5 (u := .slice sa sn sc) rfl
 have y0 := bt.cell 0 (u := .pointer none) rfl
 have y1 := bt.cell 1 (u := .bool false) rfl
 have y2 := bt.cell 2 (u := .bool false) rfl
 have y3 := bt.cell 3 (u := .bool false) rfl
 have y4 := bt.cell 4 (u := .int .i64 0) rfl
 have y5 := bt.cell 5 (u := .slice none 0 0) rfl
 have z0 := bt.frozen 0
 have z1 := bt.frozen 1
 have z2 := bt.frozen 2
 have z3 := bt.frozen 3
 have z4 := bt.frozen 4
 have z5 := bt.frozen 5
 have HBT : Hid (Bk (w1.setCell ⟨w.heap.size + 1 + 1, 5, none⟩ (.slice sa sn sc)) (w.heap.size + 1) #[.pointer none, .bool false, .bool false, .bool false, .int .i64 0, .slice none 0 0] 81) := bt
 have HB2 : Hid (Below w.heap.size w (w1.setCell ⟨w.heap.size + 1 + 1, 5, none⟩ (.slice sa sn sc))) := HB1.out.setCell (p := ⟨w.heap.size + 1 + 1, 5, none⟩) (by show w.heap.size ≤ w.heap.size + 1 + 1; omega) _
 have HN1 : Hid ((Value.slice sa sn sc).ownBlock ≠ some (w.heap.size + 1)) := fld.row_ne HIV.out bz (by decide)
 have HN2 : Hid ((Value.slice sa sn sc).ownBlock ≠ some (w.heap.size + 1 + 1)) := fld.row_ne HIV.out bm (by decide)
 clear bz bm bs bt hsn
 go_wp2

 refine bodyPost_ret (results_cell_row Tryz.results47 _ _ (w.heap.size + 1) _ #[.pointer (some ⟨tb, 0, none⟩), .bool true, .bool d, .bool mu, .int .i64 fo, .slice sa sn sc] _ _ rfl (Bk.set6 HBT.out _ _ _ _ _ _) Tryz.underlying81 rfl infoMaker) rfl ?_
 refine ⟨sa, sn, sc, rfl, HSN.out, ?_, below_set6 HB2.out (by omega) _ _ _ _ _ _⟩
 refine prp.IOwn.iv (base := w.heap.size) ?_
 unfold prp.IOwn
 exact own_setCell (own_setCell (own_setCell (own_setCell (own_setCell (own_setCell (own_setCell HIV.out HN2.out) HN1.out) HN1.out) HN1.out) HN1.out) HN1.out) HN1.out
theorem made_any (tb : Nat) (w : World) (hT : prp.Tabs w tb) : Calls Tryz.prog 45 #[.pointer (some ⟨tb, 0, none⟩)] w fun e w' => e = .returned (.bool true) ∧ Below w.heap.size w w' := by
 have C := prp.category_t tb 0 w hT
 rw [show prp.sF [67, 110] prp.catL 0 = [67, 99] from by decide +kernel] at C
 have hs : (lin.BA [67, 99]).toList = [67, 99] := by rw [Lib.toList_data, lin.BA_data]
 generalize lin.BA [67, 99] = X at *
 clear hT
 go_enter Tryz.func45, Tryz.ntmps45
 go_wp2_with fail
 refine C.mono ?_
 rintro e w1 ⟨rfl, b1⟩
 clear C
 have h1 : (X.toList == []) = false := by rw [hs]; rfl
 have h2 : X.toList.isEmpty = false := by rw [hs]; rfl
 have h3 : ¬ X.toList = [] := by rw [hs]; simp
 have h4 : (X.toList != []) = true := by rw [hs]; rfl
 clear hs
 go_wp2
 go_ret
 exact ⟨rfl, b1⟩
theorem made_none (v : Value) (w : World) (h : prp.Unmade w v) : Calls Tryz.prog 45 #[v] w fun e w' => e = .returned (.bool false) ∧ w' = w := by
 have C := prp.category_no v 0 w h
 clear h
 go_enter Tryz.func45, Tryz.ntmps45
 go_wp2_with fail
 refine C.mono ?_
 rintro e w1 ⟨rfl, rfl⟩
 clear C
 go_wp2
 go_ret
 exact ⟨rfl, rfl⟩
theorem maker_any (tb : Nat) (c d mu : Bool) (fo : Int) (w : World) (hT : prp.Tabs w tb) (hE : prp.Env w) :
  Calls Tryz.prog 47 #[.pointer (some ⟨tb, 0, none⟩), .agg #[.bool c, .bool d, .bool mu, .int .i64 fo]] w fun e w' => ∃ sa sn sc, e = .returned (.agg #[.pointer (some ⟨tb, 0, none⟩), .bool c, .bool d, .bool mu, .int .i64 fo, .slice sa sn sc]) ∧ Mk w' tb c sa sn sc ∧ Below w.heap.size w w' := by
 cases c with
 | false =>
  refine (maker_no tb d mu fo w).mono ?_
  rintro e w' ⟨rfl, hb⟩
  exact ⟨none, 0, 0, rfl, ⟨hT.below hb, hE.below hb, rfl, ⟨none, 0, rfl, fun h => (by cases h)⟩⟩, hb⟩
 | true =>
  refine (maker_yes tb d mu fo w hT hE).mono ?_
  rintro e w' ⟨sa, sn, sc, rfl, h1, h2, hb⟩
  exact ⟨sa, sn, sc, rfl, ⟨hT.below hb, hE.below hb, h1, h2⟩, hb⟩
/-- The error of class.Set. -/
def errS (fo : Int) (N : Nat) (t : Nd) : Int := if (0 ≤ fo ∧ fo ≤ 2) ∧ canN N t = true then errN N t else 1
set_option maxHeartbeats 4000000 in
set_option maxRecDepth 1000000 in
theorem Set_any (N : Nat) (hN : N ≤ 300) (t : Nd) (v : Value) (B : Nat) (w : World) (tb : Nat) (c d mu : Bool) (fo : Int) (hsz : t.sz ≤ N) (hsh : shortN t) (hv : NV B w t v) (hB : B ≤ w.heap.size) (hT : prp.Tabs w tb) (hE : prp.Env w) :
  Calls Tryz.prog 19 #[.pointer (some ⟨tb, 0, none⟩), v, .agg #[.bool c, .bool d, .bool mu, .int .i64 fo]] w fun e w' => Ans w w' e (errS fo N t) (fitN c fo d N t) := by
 have HV : Hid (NV B w t v) := hv
 obtain ⟨k, m, a, b, g, n, s, ks, ta, tc, ka, kc, rfl, rfl, _⟩ := hv.open
 generalize s.length = tl at *
 generalize ks.length = kl at *
 obtain ⟨t, ht⟩ : ∃ x, Nd.mk k m a b g n s ks = x := ⟨_, rfl⟩
 rw [ht] at hsz hsh HV ⊢
 have HT : Hid (prp.Tabs w tb) := hT
 have HE : Hid (prp.Env w) := hE
 have bn := (Bk.new w #[.int .i64 k, .int .i64 m, .int .i64 a, .int .i64 b, .bool g, .string n, .slice ta tl tc, .slice ka kl kc] 25).past (.cells #[.bool c, .bool d, .bool mu, .int .i64 fo] 30)
 have bo := Bk.new (w.alloc (.cells #[.int .i64 k, .int .i64 m, .int .i64 a, .int .i64 b, .bool g, .string n, .slice ta tl tc, .slice ka kl kc] 25)) #[.bool c, .bool d, .bool mu, .int .i64 fo] 30
 have B0 : Below w.heap.size w ((w.alloc (.cells #[.int .i64 k, .int .i64 m, .int .i64 a, .int .i64 b, .bool g, .string n, .slice ta tl tc, .slice ka kl kc] 25)).alloc (.cells #[.bool c, .bool d, .bool mu, .int .i64 fo] 30)) := ((Below.refl _ w).alloc (Nat.le_refl _) _).alloc (by simp) _
 rw [World.size_alloc] at bo
 have HBN : Hid (Bk _ w.heap.size #[.int .i64 k, .int .i64 m, .int .i64 a, .int .i64 b, .bool g, .string n, .slice ta tl tc, .slice ka kl kc] 25) := bn
 have HBO : Hid (Bk _ (w.heap.size + 1) #[.bool c, .bool d, .bool mu, .int .i64 fo] 30) := bo
 have HB0 : Hid (Below w.heap.size w _) := B0
 have C := made_any tb _ (hT.below B0)
 have HCA : Hid (∀ W, Below w.heap.size w W → Calls Tryz.prog 46 #[.agg #[.int .i64 k, .int .i64 m, .int .i64 a, .int .i64 b, .bool g, .string n, .slice ta tl tc, .slice ka kl kc]] W fun e w' => e = .returned (.bool (canN N t)) ∧ Below W.heap.size W w') := fun W hb => can_any N t _ B W hsz (HV.out.keep (below_less hb hB)) (Nat.le_trans hB hb.size)
 have HST : Hid (canN N t = true → ∀ (W : World) (sa : Option Addr) (sn sc : Nat), Below w.heap.size w W → Mk W tb c sa sn sc → Calls Tryz.prog 48 #[.agg #[.pointer (some ⟨tb, 0, none⟩), .bool c, .bool d, .bool mu, .int .i64 fo, .slice sa sn sc], .agg #[.int .i64 k, .int .i64 m, .int .i64 a, .int .i64 b, .bool g, .string n, .slice ta tl tc, .slice ka kl kc]] W fun e w' => Ans W w' e (errN N t) (fitN c fo d N t)) := fun hc W sa sn sc hb hM => set_t N hN t _ B W tb c d mu fo sa sn sc hsz hsh hc (HV.out.keep (below_less hb hB)) (Nat.le_trans hB hb.size) hM
 obtain ⟨er, her⟩ : ∃ x, errS fo N t = x := ⟨_, rfl⟩
 rw [her]
 have HER : Hid ((if (0 ≤ fo ∧ fo ≤ 2) ∧ canN N t = true then errN N t else 1) = er) := her
 have HMK : Hid (∀ W, Below w.heap.size w W → Calls Tryz.prog 47 #[.pointer (some ⟨tb, 0, none⟩), .agg #[.bool c, .bool d, .bool mu, .int .i64 fo]] W fun e w' => ∃ sa sn sc, e = .returned (.agg #[.pointer (some ⟨tb, 0, none⟩), .bool c, .bool d, .bool mu, .int .i64 fo, .slice sa sn sc]) ∧ Mk w' tb c sa sn sc ∧ Below W.heap.size W w') := fun W hb => maker_any tb c d mu fo W (HT.out.below hb) (HE.out.below hb)
 unfold Ans
 clear hv hT hE bn bo B0 hsz hsh her ht HV
 go_enter Tryz.func19, Tryz.ntmps19
 go_wp2_with fail
 refine C.mono ?_
 rintro e w1 ⟨rfl, b1⟩
 clear C
 have HB1 : Hid (Below w.heap.size w w1) := HB0.out.trans (b1.mono HB0.out.size)
 have HBN1 : Hid (Bk w1 w.heap.size #[.int .i64 k, .int .i64 m, .int .i64 a, .int .i64 b, .bool g, .string n, .slice ta tl tc, .slice ka kl kc] 25) := HBN.out.on b1
 have HBO1 : Hid (Bk w1 (w.heap.size + 1) #[.bool c, .bool d, .bool mu, .int .i64 fo] 30) := HBO.out.on b1
 clear b1 HBN HBO HB0
 have o3 := HBO1.out.cell 3 (u := .int .i64 fo) rfl
 obtain ⟨n0, n1, n2, n3, n4, n5, n6, n7⟩ := cells8 HBN1.out
 by_cases hf : 0 ≤ fo ∧ fo ≤ 2
 ·have hf1 : ¬ fo < 0 := by omega
  have hf2 : ¬ 2 < fo := by omega
  have C := HCA.out w1 HB1.out
  clear HCA
  cases hcan : canN N t with
  | false =>
   rw [hcan] at C
   have H1 : Hid (er = 1) := by show _ = _; rw [← HER.out, hcan, if_neg (fun h => by cases h.2)]
   clear HER HST hcan
   go_wp2_with fail
   refine C.mono ?_
   rintro e w2 ⟨rfl, b2⟩
   clear C
   go_wp2
   go_ret2
   exact ⟨_, [], by rw [H1.out]; rfl, rng.Own.nil _ _, fun h => absurd (H1.out.symm.trans h) (by decide), fun _ => rfl, HB1.out.trans (b2.mono HB1.out.size)⟩
  | true =>
   rw [hcan] at C
   have H1 : Hid (er = errN N t) := by show _ = _; rw [← HER.out, hcan, if_pos ⟨hf, rfl⟩]
   have HST2 := HST.out hcan
   have HS2 : Hid (∀ (W : World) (sa : Option Addr) (sn sc : Nat), Below w.heap.size w W → Mk W tb c sa sn sc → Calls Tryz.prog 48 #[.agg #[.pointer (some ⟨tb, 0, none⟩), .bool c, .bool d, .bool mu, .int .i64 fo, .slice sa sn sc], .agg #[.int .i64 k, .int .i64 m, .int .i64 a, .int .i64 b, .bool g, .string n, .slice ta tl tc, .slice ka kl kc]] W fun e w' => Ans W w' e er (fitN c fo d N t)) := by rw [H1.out]; exact HST2
   clear HER HST HST2 hcan H1
   go_wp2_with fail
   refine C.mono ?_
   rintro e w2 ⟨rfl, b2⟩
   clear C n0 n1 n2 n3 n4 n5 n6 n7 o3
   have HB2 : Hid (Below w.heap.size w w2) := HB1.out.trans (b2.mono HB1.out.size)
   have HBN2 : Hid (Bk w2 w.heap.size #[.int .i64 k, .int .i64 m, .int .i64 a, .int .i64 b, .bool g, .string n, .slice ta tl tc, .slice ka kl kc] 25) := HBN1.out.on b2
   have HBO2 : Hid (Bk w2 (w.heap.size + 1) #[.bool c, .bool d, .bool mu, .int .i64 fo] 30) := HBO1.out.on b2
   clear b2 HBN1 HBO1 HB1
   have x := cells8 HBN2.out
   have y := cells4 HBO2.out
   go_wp2
   go_region_held3 (fun w' => w'.cell? ⟨w.heap.size, 0, none⟩ = some (.int .i64 k) ∧ w'.cell? ⟨w.heap.size, 1, none⟩ = some (.int .i64 m) ∧ w'.cell? ⟨w.heap.size, 2, none⟩ = some (.int .i64 a) ∧ w'.cell? ⟨w.heap.size, 3, none⟩ = some (.int .i64 b) ∧ w'.cell? ⟨w.heap.size, 4, none⟩ = some (.bool g) ∧ w'.cell? ⟨w.heap.size, 5, none⟩ = some (.string n) ∧ w'.cell? ⟨w.heap.size, 6, none⟩ = some (.slice ta tl tc) ∧ w'.cell? ⟨w.heap.size, 7, none⟩ = some (.slice ka kl kc) ∧ w'.cell? ⟨w.heap.size + 1, 0, none⟩ = some (.bool c) ∧ w'.cell? ⟨w.heap.size + 1, 1, none⟩ = some (.bool d) ∧ w'.cell? ⟨w.heap.size + 1, 2, none⟩ = some (.bool mu) ∧ w'.cell? ⟨w.heap.size + 1, 3, none⟩ = some (.int .i64 fo)) (go_keep) (first
    | (go_at_call 47; refine (HMK.out _ HB2.out.drew).mono ?_; rintro e w3 ⟨sa, sn, sc, rfl, hM, b0⟩; have b3 : Below w2.heap.size w2 w3 := (Below.refl _ w2).drew.trans b0; have HM3 : Hid (Mk w3 tb c sa sn sc) := hM; have HB3 : Hid (Below w.heap.size w w3) := HB2.out.trans (b3.mono HB2.out.size); have HBN3 : Hid (Bk w3 w.heap.size _ _) := HBN2.out.on b3; have HBO3 : Hid (Bk w3 (w.heap.size + 1) _ _) := HBO2.out.on b3; have z := cells8 (HBN2.out.on b3); have z' := cells4 (HBO2.out.on b3); clear hM b0 b3)
    | (go_at_call 48; refine (HS2.out _ _ _ _ HB3.out HM3.out).mono ?_; rintro e w4 ⟨v4, r4, rfl, o4, i4, j4, b4⟩; have O4 : Hid (rng.Own w4 w.heap.size v4 r4) := own_mn o4 HB3.out.size; have I4 : Hid (er = 0 → IsP r4 (fitN c fo d N t)) := i4; have J4 : Hid (¬ er = 0 → r4 = []) := j4; have B4 : Hid (Below w.heap.size w w4) := HB3.out.trans (b4.mono HB3.out.size); have u := cells8 (HBN3.out.on b4); have u' := cells4 (HBO3.out.on b4); clear o4 i4 j4 b4))
   all_goals go_wp2
   all_goals go_ret2
   all_goals exact ⟨_, r4, rfl, O4.out, I4.out, J4.out, B4.out⟩
 ·have H1 : Hid (er = 1) := by show _ = _; rw [← HER.out, if_neg (fun h => hf h.1)]
  clear HER HST HCA
  by_cases h1 : fo < 0
  ·clear hf
   go_wp2
   go_ret2
   exact ⟨_, [], by rw [H1.out]; rfl, rng.Own.nil _ _, fun h => absurd (H1.out.symm.trans h) (by decide), fun _ => rfl, HB1.out⟩
  ·have h2 : 2 < fo := by omega
   clear hf
   go_wp2
   go_ret2
   exact ⟨_, [], by rw [H1.out]; rfl, rng.Own.nil _ _, fun h => absurd (H1.out.symm.trans h) (by decide), fun _ => rfl, HB1.out⟩
set_option maxHeartbeats 1000000 in
theorem Set_none (v : Value) (k m a b : Int) (g : Bool) (n : ByteArray) (ta : Option Addr) (tl tc : Nat) (ka : Option Addr) (kl kc : Nat) (c d mu : Bool) (fo : Int) (w : World) (h : prp.Unmade w v) :
  Calls Tryz.prog 19 #[v, .agg #[.int .i64 k, .int .i64 m, .int .i64 a, .int .i64 b, .bool g, .string n, .slice ta tl tc, .slice ka kl kc], .agg #[.bool c, .bool d, .bool mu, .int .i64 fo]] w fun e w' => e = .returned (.tuple #[.slice none 0 0, .int .i64 2]) ∧ Below w.heap.size w w' := by
 have B0 : Below w.heap.size w ((w.alloc (.cells #[.int .i64 k, .int .i64 m, .int .i64 a, .int .i64 b, .bool g, .string n, .slice ta tl tc, .slice ka kl kc] 25)).alloc (.cells #[.bool c, .bool d, .bool mu, .int .i64 fo] 30)) := ((Below.refl _ w).alloc (Nat.le_refl _) _).alloc (by simp) _
 have C := made_none v _ (h.below B0)
 have HB : Hid (Below w.heap.size w _) := B0
 clear h B0
 go_enter Tryz.func19, Tryz.ntmps19
 go_wp2_with fail
 refine C.mono ?_
 rintro e w1 ⟨rfl, hw⟩
 rw [hw]
 clear C hw w1
 go_wp2
 go_ret2
 exact ⟨rfl, HB.out⟩
end Go.Proofs.YtinlolmjafjhnaaGreatDoor.cls
end

section
/- awake of class's laws; the walk of ClassNobody. -/
set_option linter.unusedVariables false
set_option linter.unusedSimpArgs false
namespace Go.Proofs.YtinlolmjafjhnaaGreatDoor.cls
open Go.RowKit
open Go.Proofs.YtinlolmjafjhnaaGreatDoor.rng (R has IsSet Sl code CanF RV)
open Go.Proofs.YtinlolmjafjhnaaGreatDoor.dcp (sinL fullL)
open Go.Proofs.YtinlolmjafjhnaaGreatDoor.fld (sim kL)
open Go.Proofs.YtinlolmjafjhnaaGreatDoor.nod

def kT : Nd := .mk 3 0 0 0 false ⟨#[]⟩ [] [.mk 1 0 107 0 false ⟨#[]⟩ [] []]
theorem i64s {x : Int} (h1 : -1000 ≤ x) (h2 : x ≤ 2000000) : I64 x := by unfold I64; omega
end Go.Proofs.YtinlolmjafjhnaaGreatDoor.cls
end
