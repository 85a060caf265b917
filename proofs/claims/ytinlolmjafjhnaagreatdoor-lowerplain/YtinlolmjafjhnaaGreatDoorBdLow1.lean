/- Texts that the proof leans on, one behind the other. -/
import Derived.Test.YtinlolmjafjhnaaGreatDoorBdNod1
import Derived.Test.YtinlolmjafjhnaaGreatDoorBdUtf1
import Derived.Test.YtinlolmjafjhnaaGreatDoorBdLin3
import Derived.Test.YtinlolmjafjhnaaGreatDoorBdLin2
import Derived.Lib.AppendStr
import Derived.Deep.RegionWith

section
/- The writer of a tree's pattern in memory: as far as lower's awake goes. -/
set_option linter.unusedVariables false
set_option linter.unusedSimpArgs false
namespace Go.Proofs.YtinlolmjafjhnaaGreatDoor.low
open Go.RowKit nod
open Go.Proofs.YtinlolmjafjhnaaGreatDoor.rng (R RV ret_int ret_bool below_drewN info_parts own_below')

/-- What a writer holds. -/
structure Wr where
 text : List UInt8
 room : Int
 depth : Int
 groups : Int
 names : List ByteArray

/-- The writer s lies in block g. -/
def WrAt (w : World) (base g : Nat) (s : Wr) : Prop := base ≤ g ∧ ∃ p bv nv, w.heap[g]? = some (.cells #[p, bv, .int .i64 s.room, .int .i64 s.depth, .int .i64 s.groups, nv] 119 (0, 0)) ∧
 (p = .pointer none ∨ p = .pointer (some ⟨g, 0, none⟩)) ∧ w.ownsRow base 5 1 bv s.text.length (Lib.byteCells s.text) ∧ w.ownsRow base 9 1 nv s.names.length (s.names.map Value.string)

/-- From w to w' nothing below base has changed, and no block but writers, rows of bytes and rows of texts. -/
structure Kt (base : Nat) (w w' : World) : Prop where
 below : Below base w w'
 block : ∀ (k : Nat) (cs : Array Value) (t : TypeId) (fr : Nat × Nat), w.heap[k]? = some (.cells cs t fr) → t ≠ 119 → t ≠ 5 → t ≠ 9 → w'.heap[k]? = some (.cells cs t fr)
theorem Kt.refl (base : Nat) (w : World) : Kt base w w := ⟨Below.refl _ _, fun _ _ _ _ h _ _ _ => h⟩
theorem Kt.trans {base : Nat} {a b c : World} (h : Kt base a b) (k : Kt base b c) : Kt base a c := ⟨h.below.trans k.below, fun i cs t fr h1 n1 n2 n3 => k.block i cs t fr (h.block i cs t fr h1 n1 n2 n3) n1 n2 n3⟩
theorem Kt.of_below {base : Nat} {w w' : World} (h : Below w.heap.size w w') (hb : base ≤ w.heap.size) : Kt base w w' :=
 ⟨below_less h hb, fun k cs t fr h1 _ _ _ => (h.block k (Array.getElem?_eq_some_iff.1 h1).1).trans h1⟩
theorem WrAt.lt {w : World} {base g : Nat} {s : Wr} (h : WrAt w base g s) : g < w.heap.size := by
 obtain ⟨_, p, bv, nv, h1, _⟩ := h
 exact (Array.getElem?_eq_some_iff.1 h1).1
theorem WrAt.on {w w' : World} {base g : Nat} {s : Wr} (h : WrAt w base g s) (hb : Below w.heap.size w w') : WrAt w' base g s := by
 have hl := h.lt
 obtain ⟨h0, p, bv, nv, h1, h2, h3, h4⟩ := h
 exact ⟨h0, p, bv, nv, (hb.block g hl).trans h1, h2, rng.own_below' h3 hb, rng.own_below' h4 hb⟩
/-- Rows of another type lie elsewhere. -/
theorem own_off {w : World} {base e n g : Nat} {v : Value} {xs : List Value} {cs : Array Value} {t : TypeId} {fr : Nat × Nat} (h : w.ownsRow base e 1 v n xs) (hg : w.heap[g]? = some (.cells cs t fr)) (ht : t ≠ e) : v.ownBlock ≠ some g := by
 rcases h.2 with ⟨rfl, _⟩ | ⟨g', cap, cur, rfl, _, hg', _⟩
 ·simp [Value.ownBlock]
 ·intro h
  simp only [Value.ownBlock, Option.some.injEq] at h
  subst h
  rw [hg'] at hg
  simp only [Option.some.injEq, Obj.cells.injEq] at hg
  exact ht hg.2.1.symm
theorem own_set {w : World} {base e n g i : Nat} {v u : Value} {xs : List Value} (h : w.ownsRow base e 1 v n xs) (hg : v.ownBlock ≠ some g) : (w.setCell ⟨g, i, none⟩ u).ownsRow base e 1 v n xs := by
 refine h.kept (row := some g) ⟨rfl, rfl, rfl, by simp [World.setCell], fun k _ hk => Below.heap_setCell _ _ _ _ (fun e => hk (by simp [e]))⟩ ?_
 exact Or.inr hg
theorem neWB : (119 : TypeId) ≠ 5 := by decide
theorem neWS : (119 : TypeId) ≠ 9 := by decide
theorem neBS : (5 : TypeId) ≠ 9 := by decide

/-- The writer's own numbers are set. -/
theorem WrAt.set {w : World} {base g : Nat} {s : Wr} (h : WrAt w base g s) (s' : Wr) (i : Nat) (u : Value) (ht : s'.text = s.text) (hn : s'.names = s.names)
  (hc : (#[s.room, s.depth, s.groups].map (Value.int .i64)).setIfInBounds i u = #[s'.room, s'.depth, s'.groups].map (Value.int .i64)) (hi : i < 3) : WrAt (w.setCell ⟨g, i + 2, none⟩ u) base g s' ∧ Kt base w (w.setCell ⟨g, i + 2, none⟩ u) := by
 obtain ⟨h0, p, bv, nv, h1, h2, h3, h4⟩ := h
 have b1 := own_off h3 h1 neWB
 have b2 := own_off h4 h1 neWS
 refine ⟨⟨h0, p, bv, nv, ?_, h2, by rw [ht]; exact own_set h3 b1, by rw [hn]; exact own_set h4 b2⟩, ⟨(Below.refl _ w).setCell (p := ⟨g, i + 2, none⟩) h0 u, fun k cs t fr hk n1 n2 n3 => ?_⟩⟩
 ·simp only [World.setCell, Array.getElem?_modify, if_true, h1, Option.map_some]
  match i, hi with
  | 0, _ => simp at hc; simp [hc]
  | 1, _ => simp at hc; simp [hc]
  | 2, _ => simp at hc; simp [hc]
 ·by_cases e : k = g
  ·subst e
   rw [h1] at hk
   simp only [Option.some.injEq, Obj.cells.injEq] at hk
   exact absurd hk.2.1.symm n1
  ·exact (Below.heap_setCell _ _ _ _ e).trans hk

theorem sizeBd : (Tryz.prog.info? 117).map (·.size) = some 2 := by kernel_rfl
set_option maxHeartbeats 1000000 in
set_option maxRecDepth 100000 in
/-- copyCheck of a writer's builder that has been used. -/
theorem check_used (g : Nat) (w : World) (h0 : w.cell? ⟨g, 0, none⟩ = some (.pointer (some ⟨g, 0, none⟩))) :
  Calls Tryz.prog 249 #[.pointer (some ⟨g, 0, none⟩)] w fun e w' => e = .returned (.tuple #[]) ∧ w' = w := by
 obtain ⟨j, hj, _⟩ := Option.map_eq_some_iff.1 sizeBd
 go_enter Tryz.func249, Tryz.ntmps249
 go_wp2
 rw [Lib.run_neq_ptr_same w _ Tryz.underlying114 hj]
 go_wp2
 go_end0
 exact ⟨rfl, rfl⟩
set_option maxHeartbeats 1000000 in
set_option maxRecDepth 100000 in
/-- copyCheck of a writer's builder that is fresh. -/
theorem check_fresh (g : Nat) (w : World) (h0 : w.cell? ⟨g, 0, none⟩ = some (.pointer none)) (hsh : w.shape? g = some (119, 6)) (hfz : w.frozen? ⟨g, 0, none⟩ = false) :
  Calls Tryz.prog 249 #[.pointer (some ⟨g, 0, none⟩)] w fun e w' => e = .returned (.tuple #[]) ∧ w' = w.setCell ⟨g, 0, none⟩ (.pointer (some ⟨g, 0, none⟩)) := by
 obtain ⟨j, hj, hjs⟩ := Option.map_eq_some_iff.1 sizeBd
 go_enter Tryz.func249, Tryz.ntmps249
 go_wp2
 rw [Lib.run_to_unsafe w ⟨g, 0, none⟩ Tryz.underlying114 Tryz.underlying326 hj (by rw [hjs]; decide) hsh (Nat.zero_lt_succ _)]
 simp only [Result.andThen]
 rw [Oper.upon_value]
 go_wp2
 rw [run_callFunc_extern Tryz.func286 (by kernel_rfl) (by kernel_rfl) (by kernel_rfl) (e := Extern.AbiNoEscape.same) (by kernel_rfl)]
 rw [Lib.run_noEscape]
 simp only [Result.andThen]
 rw [Oper.upon_value]
 go_wp2
 rw [Lib.run_from_unsafe w ⟨g, 0, none⟩ Tryz.underlying326 Tryz.underlying114 hj hsh (by kernel_rfl)]
 simp only [Result.andThen]
 rw [Oper.upon_value]
 go_wp2
 go_end0
 exact ⟨rfl, rfl⟩

theorem infoByte : (Tryz.prog.info? 5).map (fun i => (i.zero, i.size, i.bytes)) = some (some (.int .u8 0), 1, 1) := by kernel_rfl
theorem strCells_bytes (s : ByteArray) : Lib.strCells s = Lib.byteCells s.data.toList := by
 simp [Lib.strCells, Lib.byteCells]
/-- A text behind what is written. -/
def Wr.add (s : Wr) (t : ByteArray) : Wr := { s with text := s.text ++ t.data.toList }

set_option maxHeartbeats 2000000 in
set_option maxRecDepth 100000 in
theorem write_any (base g : Nat) (s : Wr) (t : ByteArray) (w : World) (h : WrAt w base g s) (hl : s.text.length + t.size ≤ 140737488355328) :
  Calls Tryz.prog 199 #[.pointer (some ⟨g, 0, none⟩), .string t] w fun e w' => e = .returned (.tuple #[.int .i64 t.size, .nilIface]) ∧ WrAt w' base g (s.add t) ∧ Kt base w w' := by
 obtain ⟨i0, hi, hz0, hz1, hz2⟩ := info_parts infoByte
 have hbw : base ≤ w.heap.size := Nat.le_trans h.1 (Nat.le_of_lt h.lt)
 -- behind copyCheck
 have C : Hid (Calls Tryz.prog 249 #[.pointer (some ⟨g, 0, none⟩)] w fun e w' => e = .returned (.tuple #[]) ∧ (∃ bv nv, w'.heap[g]? = some (.cells #[.pointer (some ⟨g, 0, none⟩), bv, .int .i64 s.room, .int .i64 s.depth, .int .i64 s.groups, nv] 119 (0, 0)) ∧ w'.ownsRow base 5 1 bv s.text.length (Lib.byteCells s.text) ∧ w'.ownsRow base 9 1 nv s.names.length (s.names.map Value.string)) ∧ Kt base w w') := by
  obtain ⟨h0, p, bv, nv, h1, h2, h3, h4⟩ := h
  rcases h2 with rfl | rfl
  ·refine (check_fresh g w (by rw [Lib.cell_of_heap h1]; rfl) (by simp [World.shape?, h1]) (Lib.frozen_of_heap h1 0)).mono ?_
   rintro e w' ⟨rfl, rfl⟩
   refine ⟨rfl, ⟨bv, nv, ?_, own_set h3 (own_off h3 h1 neWB), own_set h4 (own_off h4 h1 neWS)⟩, ⟨(Below.refl _ w).setCell (p := ⟨g, 0, none⟩) h0 _, fun k cs t fr hk n1 n2 n3 => ?_⟩⟩
   ·simp [World.setCell, Array.getElem?_modify, h1]
   ·by_cases e : k = g
    ·subst e
     rw [h1] at hk
     simp only [Option.some.injEq, Obj.cells.injEq] at hk
     exact absurd hk.2.1.symm n1
    ·exact (Below.heap_setCell _ _ _ _ e).trans hk
  ·refine (check_used g w (by rw [Lib.cell_of_heap h1]; rfl)).mono ?_
   rintro e w' ⟨rfl, rfl⟩
   exact ⟨rfl, ⟨bv, nv, h1, h3, h4⟩, Kt.refl _ _⟩
 have hbg := h.1
 clear h
 go_enter Tryz.func199, Tryz.ntmps199
 go_wp2_with (go_at_call 249; refine C.out.mono ?_)
 rintro e w1 ⟨rfl, ⟨bv, nv, hbk, hown, hnm⟩, k1⟩
 have c0 : w1.cell? ⟨g, 0, none⟩ = some (.pointer (some ⟨g, 0, none⟩)) := by rw [Lib.cell_of_heap hbk]; rfl
 have c1 : w1.cell? ⟨g, 1, none⟩ = some bv := by rw [Lib.cell_of_heap hbk]; rfl
 have K1 : Hid (Kt base w w1) := k1
 have HN : Hid (w1.ownsRow base 9 1 nv s.names.length (s.names.map Value.string)) := hnm
 have hs1 : base ≤ w1.heap.size := Nat.le_trans hbw k1.below.size
 have HBK : Hid (w1.heap[g]? = some (.cells #[.pointer (some ⟨g, 0, none⟩), bv, .int .i64 s.room, .int .i64 s.depth, .int .i64 s.groups, nv] 119 (0, 0))) := hbk
 have HO : Hid (w1.ownsRow base 5 1 bv s.text.length (Lib.byteCells s.text)) := hown
 clear k1 hnm hbk C
 go_wp2_with (at_builtin; refine Lib.wpList_append_own_string _ rfl _ _ 115 9 rfl base 5 i0 Tryz.underlying115 Tryz.underlying9 hi hz0 hz1 hz2 _ _ _ rfl hown t rfl ?c3 ?c4 ?c5 ?_)
 case c3 => unfold maxLen; omega
 case c4 => omega
 case c5 => exact hs1
 intro v' w2 hown' hgrow _
 have hlt : g < w1.heap.size := (Array.getElem?_eq_some_iff.1 HBK.out).1
 have hne := own_off HO.out HBK.out neWB
 have hb2 : w2.heap[g]? = some (.cells #[.pointer (some ⟨g, 0, none⟩), bv, .int .i64 s.room, .int .i64 s.depth, .int .i64 s.groups, nv] 119 (0, 0)) := by
  rw [hgrow.block g hlt (fun e => hne e.symm)]
  exact HBK.out
 have d0 : w2.cell? ⟨g, 0, none⟩ = some (.pointer (some ⟨g, 0, none⟩)) := by rw [Lib.cell_of_heap hb2]; rfl
 have d1 : w2.cell? ⟨g, 1, none⟩ = some bv := by rw [Lib.cell_of_heap hb2]; rfl
 have f1 : w2.frozen? ⟨g, 1, none⟩ = false := Lib.frozen_of_heap hb2 1
 obtain ⟨ao, n', cap, rfl⟩ : ∃ ao n' cap, v' = .slice ao n' cap := by
  rcases hown'.2 with ⟨hv, _⟩ | ⟨g, cap, cur, hv, _⟩
  ·exact ⟨_, _, _, hv⟩
  ·exact ⟨_, _, _, hv⟩
 have HG : Hid (w1.grownBy w2 bv.ownBlock) := hgrow
 have HO2 : Hid (w2.ownsRow base 5 1 (.slice ao n' cap) (s.text.length + t.size) (Lib.byteCells s.text ++ Lib.strCells t)) := hown'
 have HB2 : Hid (w2.heap[g]? = some (.cells #[.pointer (some ⟨g, 0, none⟩), bv, .int .i64 s.room, .int .i64 s.depth, .int .i64 s.groups, nv] 119 (0, 0))) := hb2
 clear hgrow hown' hb2 hown
 go_wp2
 go_ret2
 have hnn : w2.ownsRow base 9 1 nv s.names.length (s.names.map Value.string) := HN.out.kept HG.out (by
  rcases HN.out.2 with ⟨rfl, h0⟩ | ⟨gn, cn, cur, rfl, hgn, hgg, _⟩
  ·exact .inl rfl
  ·right
   intro e
   have := own_off HO.out hgg (Ne.symm neBS)
   exact this (e.symm ▸ rfl))
 refine ⟨rfl, ⟨hbg, .pointer (some ⟨g, 0, none⟩), .slice ao n' cap, nv, ?_, .inr rfl, ?_, own_set hnn (own_off hnn HB2.out neWS)⟩, ?_⟩
 ·have := HB2.out
  simp [World.setCell, Array.getElem?_modify, this, Wr.add]
 ·have e1 : (s.add t).text.length = s.text.length + t.size := by simp [Wr.add]
  have e2 : Lib.byteCells (s.add t).text = Lib.byteCells s.text ++ Lib.strCells t := by rw [strCells_bytes]; simp [Wr.add, Lib.byteCells]
  rw [e1, e2]
  exact own_set HO2.out (own_off HO2.out HB2.out neWB)
 ·refine K1.out.trans ⟨(Below.grown (Below.refl _ w1) HG.out hs1 (fun k e => (HO.out.lt k e).1)).setCell (p := ⟨g, 1, none⟩) hbg _, fun k cs t fr hk n1 n2 n3 => ?_⟩
  have hkl := (Array.getElem?_eq_some_iff.1 hk).1
  have hkg : k ≠ g := by
   rintro rfl
   rw [HBK.out] at hk
   simp only [Option.some.injEq, Obj.cells.injEq] at hk
   exact n1 hk.2.1.symm
  refine (Below.heap_setCell _ _ _ _ hkg).trans ((HG.out.block k hkl (fun e => ?_)).trans hk)
  exact own_off HO.out hk n2 e.symm

/-- Less room. -/
def Wr.less (s : Wr) (n : Int) : Wr := { s with room := s.room - n }
/-- A piece of the pattern. -/
def putP (s : Wr) (t : ByteArray) : Wr × Bool := if t.size = 0 then (s, false) else if 0 ≤ s.room - t.size then ((s.less t.size).add t, true) else (s.less t.size, false)
theorem take_any (base g : Nat) (s : Wr) (n : Int) (w : World) (h : WrAt w base g s) (h0 : 0 ≤ s.room) (h1 : s.room ≤ 2000) (h2 : 0 ≤ n) (h3 : n ≤ 9223372036854775807) :
  Calls Tryz.prog 198 #[.pointer (some ⟨g, 0, none⟩), .int .i64 n] w fun e w' => e = .returned (.bool (decide (0 ≤ s.room - n))) ∧ WrAt w' base g (s.less n) ∧ Kt base w w' := by
 have H := h.set (s.less n) 0 (.int .i64 (s.room - n)) rfl rfl (by simp [Wr.less]) (by omega)
 obtain ⟨hb, p, bv, nv, hbk, _⟩ := h
 have c2 : w.cell? ⟨g, 2, none⟩ = some (.int .i64 s.room) := by rw [Lib.cell_of_heap hbk]; rfl
 have f2 : w.frozen? ⟨g, 2, none⟩ = false := Lib.frozen_of_heap hbk 2
 have HH : Hid _ := H
 clear H hbk
 generalize s.room = r at *
 go_enter Tryz.func198, Tryz.ntmps198
 go_wp2
 go_ret
 exact ⟨ret_bool (by rw [decide_eq_decide]; omega), HH.out.1, HH.out.2⟩

set_option maxRecDepth 10000 in
theorem put_any (base g : Nat) (s : Wr) (t : ByteArray) (w : World) (h : WrAt w base g s) (h0 : 0 ≤ s.room) (h1 : s.text.length + s.room ≤ 2000) (ht : t.size ≤ 9223372036854775807) :
  Calls Tryz.prog 151 #[.pointer (some ⟨g, 0, none⟩), .string t] w fun e w' => e = .returned (.bool (putP s t).2) ∧ WrAt w' base g (putP s t).1 ∧ Kt base w w' := by
 by_cases z : t.size = 0
 ·have e1 : t.toList.isEmpty = true := lin.isEmpty_of z
  have HE : Hid (putP s t = (s, false)) := by unfold Hid putP; rw [if_pos z]
  have HW : Hid (WrAt w base g s) := h
  rw [HE.out]
  clear h z HE
  go_enter Tryz.func151, Tryz.ntmps151
  go_wp2
  go_ret
  exact ⟨rfl, HW.out, Kt.refl _ _⟩
 have e1 : t.toList.isEmpty = false := lin.isEmpty_not z
 have C := take_any base g s t.size w h h0 (by omega) (by omega) (by omega)
 by_cases c : 0 ≤ s.room - t.size
 ·have HE : Hid (putP s t = ((s.less t.size).add t, true)) := by unfold Hid putP; rw [if_neg z, if_pos c]
  rw [HE.out]
  rw [decide_eq_true c] at C
  have CW : Hid (∀ W, WrAt W base g (s.less t.size) → Calls Tryz.prog 199 #[.pointer (some ⟨g, 0, none⟩), .string t] W fun e w' => e = .returned (.tuple #[.int .i64 t.size, .nilIface]) ∧ WrAt w' base g ((s.less t.size).add t) ∧ Kt base W w') := fun W hW => write_any base g (s.less t.size) t W hW (by simp [Wr.less]; omega)
  clear h z HE
  go_enter Tryz.func151, Tryz.ntmps151
  go_wp2_with (first
   | (go_at_call 198; refine C.mono ?_; rintro e w1 ⟨rfl, d1, d2⟩; have W1 : Hid (WrAt w1 base g _) := d1; have K1 : Hid (Kt base w w1) := d2; clear d1 d2)
   | (go_at_call 199; refine (CW.out _ W1.out).mono ?_; rintro e w2 ⟨rfl, d1, d2⟩; have W2 : Hid (WrAt w2 base g _) := d1; have K2 : Hid (Kt base w1 w2) := d2; clear d1 d2))
  go_ret
  exact ⟨rfl, W2.out, K1.out.trans K2.out⟩
 ·have HE : Hid (putP s t = (s.less t.size, false)) := by unfold Hid putP; rw [if_neg z, if_neg c]
  rw [HE.out]
  rw [decide_eq_false c] at C
  clear h z HE
  go_enter Tryz.func151, Tryz.ntmps151
  go_wp2_with (go_at_call 198; refine C.mono ?_; rintro e w1 ⟨rfl, d1, d2⟩; have W1 : Hid (WrAt w1 base g _) := d1; have K1 : Hid (Kt base w w1) := d2; clear d1 d2)
  go_ret
  exact ⟨rfl, W1.out, K1.out⟩


theorem cellsByte : Tryz.prog.cellsOf 5 = 1 := by kernel_rfl
set_option maxHeartbeats 2000000 in
set_option maxRecDepth 100000 in
theorem string_any (base g : Nat) (s : Wr) (w : World) (h : WrAt w base g s) (h0 : s.text ≠ []) :
  Calls Tryz.prog 71 #[.pointer (some ⟨g, 0, none⟩)] w fun e w' => e = .returned (.string ⟨s.text.toArray⟩) ∧ Below base w w' := by
 obtain ⟨hB, p, v, nv, hbk, _, hown, _⟩ := h
 have hl0 : s.text.length ≠ 0 := by simpa using h0
 obtain ⟨gb, cap, cur, rfl, hbg, hg, hnc, hcm, hcs, htake⟩ : ∃ gb cap cur, v = .slice (some ⟨gb, 0, none⟩) s.text.length cap ∧ base ≤ gb ∧ w.heap[gb]? = some (.cells cur 5 (0, 0)) ∧ s.text.length ≤ cap ∧ cap ≤ maxLen ∧ cur.size = cap * 1 ∧ cur.toList.take (s.text.length * 1) = Lib.byteCells s.text := by
  rcases hown.2 with ⟨_, hz⟩ | ⟨gb, cap, cur, hv, r⟩
  ·exact absurd hz hl0
  ·exact ⟨gb, cap, cur, hv, r⟩
 have c1 : w.drew.cell? ⟨g, 1, none⟩ = some (.slice (some ⟨gb, 0, none⟩) s.text.length cap) := by
  have : w.drew.heap[g]? = some (.cells #[p, .slice (some ⟨gb, 0, none⟩) s.text.length cap, .int .i64 s.room, .int .i64 s.depth, .int .i64 s.groups, nv] 119 (0, 0)) := hbk
  rw [Lib.cell_of_heap this]; rfl
 have hSD : (Builtin.unsafeSliceData_ #[115] 162 #[.slice (some ⟨gb, 0, none⟩) s.text.length cap]).run Tryz.prog w.drew = .ok (.pointer (some ⟨gb, 0, none⟩)) w.drew :=
  Lib.run_unsafeSliceData_row _ _ _ _ _ _ (by omega)
 have hUS : (Builtin.unsafeString_ #[162, 3] 9 #[.pointer (some ⟨gb, 0, none⟩), .int .i64 s.text.length]).run Tryz.prog w.drew = .ok (.string ⟨s.text.toArray⟩) (w.drew.freeze ⟨gb, 0, none⟩ s.text.length) := by
  refine Lib.run_unsafeString_row w.drew 162 3 9 5 Tryz.underlying162 cellsByte gb cur.size (by have hg' : w.drew.heap[gb]? = some (.cells cur 5 (0, 0)) := hg; simp [World.shape?, hg']) s.text h0 (by omega) (by unfold maxLen at hcm; omega) ?_
  intro j x hx
  have := hown.cells (g := gb) rfl j (.int .u8 x.toNat) (by simp [Lib.byteCells, hx])
  exact this
 have hn : s.text.length ≤ 9223372036854775807 := by unfold maxLen at hcm; omega
 have HBG : Hid (base ≤ gb) := hbg
 clear hown hbk hcs htake hg h0 hl0 hcm hB hnc hbg
 generalize (⟨s.text.toArray⟩ : ByteArray) = X at *
 generalize s.text.length = n at *
 go_enter Tryz.func71, Tryz.ntmps71
 go_wp2
 go_region
 all_goals (try go_wp2; go_ret; exact ⟨rfl, Lib.below_freeze (Below.drew (Below.refl base w)) (p := ⟨gb, 0, none⟩) HBG.out _⟩)
end Go.Proofs.YtinlolmjafjhnaaGreatDoor.low
end

section
/- tree.Can of the tree of one letter: what lower's awake asks. -/
set_option linter.unusedVariables false
set_option linter.unusedSimpArgs false
namespace Go.Proofs.YtinlolmjafjhnaaGreatDoor.low
open Go.RowKit nod
open Go.Proofs.YtinlolmjafjhnaaGreatDoor.rng (R RV ret_int ret_bool below_drewN info_parts own_below')

/-- Which fields a kind of nodes has. -/
def fieldsP (k : Int) : Int :=
 if k = 1 ∨ k = 13 then 2 else if k = 3 then 41 else if k = 4 then 6 else if k = 5 then 24 else if k = 6 ∨ k = 7 ∨ k = 11 then 32 else if k = 8 then 39 else if k = 9 then 50 else if k = 10 then 33 else if k = 12 then 1 else 0
/-- Has the kind k the field f. -/
def may (k f : Int) : Bool := bits .and .u64 (fieldsP k) f != 0
theorem fields_1 (w : World) : Calls Tryz.prog 189 #[.int .i64 1] w fun e w' => e = .returned (.int .u64 (fieldsP 1)) ∧ w' = w := by
 go_enter Tryz.func189, Tryz.ntmps189; go_wp2; go_ret; exact ⟨rfl, rfl⟩
theorem fields_6 (w : World) : Calls Tryz.prog 189 #[.int .i64 6] w fun e w' => e = .returned (.int .u64 (fieldsP 6)) ∧ w' = w := by
 go_enter Tryz.func189, Tryz.ntmps189; go_wp2; go_ret; exact ⟨rfl, rfl⟩
theorem may_any (k f : Int) (ob : Nat) (w : World) (h : w.cell? ⟨ob, 0, none⟩ = some (.int .u64 (fieldsP k))) :
  Calls Tryz.prog 190 #[.int .u64 f, .pointer (some ⟨ob, 0, none⟩)] w fun e w' => e = .returned (.bool (may k f)) ∧ w' = w := by
 go_enter Tryz.func190, Tryz.ntmps190
 go_wp2
 go_ret
 exact ⟨rfl, rfl⟩
/-- What token.Print leans on. -/
structure PE (w : World) : Prop where
 mks : utf.Marks w
 ml : ∃ m, w.cell? ⟨6, 0, none⟩ = some (.int .i64 m)
theorem PE.below {w w' : World} (h : PE w) (hb : Below w.heap.size w w') : PE w' := by
 obtain ⟨m, hm⟩ := h.ml
 exact ⟨h.mks.below hb, m, (hb.cell (World.block_lt_of_cell? w _ hm)).trans hm⟩
set_option maxHeartbeats 4000000 in
set_option maxRecDepth 100000 in
theorem print_a (w : World) (E : PE w) : Calls Tryz.prog 191 #[.int .i64 97, .bool false] w fun e w' => e = .returned (.string ⟨#[97]⟩) ∧ Below w.heap.size w w' := by
 have C := utf.enc_yes 97 w (by decide) E.mks
 have CV : (convert 115 9 (.slice (some ⟨w.heap.size, 0, none⟩) 1 1)).run Tryz.prog (w.alloc (utf.encBlock 97)) = .ok (.string ⟨#[97]⟩) (w.alloc (utf.encBlock 97)) := utf.bts_block (xs := utf.enc 97) 1 (show (w.heap.push _)[w.heap.size]? = _ by simp; rfl)
 rw [show (utf.enc 97).length = 1 by decide] at C
 have HB : Hid (Below w.heap.size w (w.alloc (utf.encBlock 97))) := (Below.refl _ _).alloc (Nat.le_refl _) _
 obtain ⟨m, hm⟩ := (E.below HB.out).ml
 have CT : Calls Tryz.prog 240 #[.string ⟨#[46, 91, 40, 41, 124, 42, 43, 63, 123, 94, 36, 92]⟩, .string ⟨#[97]⟩] (w.alloc (utf.encBlock 97)) fun e w' => e = .returned (.bool false) ∧ w' = w.alloc (utf.encBlock 97) := by
  have := Tryz.strings_Contains ⟨#[46, 91, 40, 41, 124, 42, 43, 63, 123, 94, 36, 92]⟩ ⟨#[97]⟩ m _ (by decide) hm
  rw [show Lib.contains (⟨#[46, 91, 40, 41, 124, 42, 43, 63, 123, 94, 36, 92]⟩ : ByteArray).data.toList (⟨#[97]⟩ : ByteArray).data.toList = false by decide +kernel] at this
  exact this
 clear E hm
 generalize w.alloc (utf.encBlock 97) = W at *
 go_enter Tryz.func191, Tryz.ntmps191
 go_wp2_with fail
 refine C.mono ?_
 rintro e w1 ⟨rfl, rfl⟩
 clear C
 go_wp2_with fail
 refine CT.mono ?_
 rintro e w2 ⟨rfl, rfl⟩
 go_wp2
 go_ret
 exact ⟨rfl, HB.out⟩

/-- The writer, its room, the tables. -/
structure Ctx (w0 W : World) (base g : Nat) (s : Wr) : Prop where
 env : PE w0
 hb : base = w0.heap.size
 bel : Below base w0 W
 wr : WrAt W base g s
 r0 : 0 ≤ s.room
 r1 : s.text.length + s.room ≤ 2000
theorem Ctx.penv {w0 W : World} {base g : Nat} {s : Wr} (c : Ctx w0 W base g s) : PE W := c.env.below (c.hb ▸ c.bel)
theorem Ctx.size {w0 W : World} {base g : Nat} {s : Wr} (c : Ctx w0 W base g s) : base ≤ W.heap.size := by have := c.bel.size; rw [c.hb] at *; exact this
theorem Ctx.on {w0 W W' : World} {base g : Nat} {s : Wr} (c : Ctx w0 W base g s) (h : Below W.heap.size W W') : Ctx w0 W' base g s :=
 ⟨c.env, c.hb, c.bel.trans (below_less h c.size), c.wr.on h, c.r0, c.r1⟩
theorem Ctx.to {w0 W W' : World} {base g : Nat} {s s' : Wr} (c : Ctx w0 W base g s) (k : Kt base W W') (h : WrAt W' base g s') (h0 : 0 ≤ s'.room) (h1 : s'.text.length + s'.room ≤ 2000) : Ctx w0 W' base g s' :=
 ⟨c.env, c.hb, c.bel.trans k.below, h, h0, h1⟩
/-- A text for which there is room is written. -/
theorem putP_ok {s : Wr} {t : ByteArray} (h1 : t.size ≠ 0) (h2 : 0 ≤ s.room - t.size) : putP s t = ((s.less t.size).add t, true) := by unfold putP; rw [if_neg h1, if_pos h2]
theorem put_ctx {w0 W : World} {base g : Nat} {s : Wr} {t : ByteArray} {n : Nat} (c : Ctx w0 W base g s) (hs : t.size = n) (h1 : n ≠ 0) (h2 : (n : Int) ≤ s.room) :
  Calls Tryz.prog 151 #[.pointer (some ⟨g, 0, none⟩), .string t] W fun e w' => e = .returned (.bool true) ∧ Ctx w0 w' base g ((s.less n).add t) ∧ Kt base W w' := by
 subst hs
 refine (put_any base g s t W c.wr c.r0 c.r1 (by have := c.r1; omega)).mono ?_
 rw [putP_ok h1 (by omega)]
 rintro e w' ⟨rfl, d1, d2⟩
 have hl : ((s.less t.size).add t).text.length = s.text.length + t.size := by simp [Wr.add, Wr.less]
 refine ⟨rfl, c.to d2 d1 (by simp only [Wr.add, Wr.less]; omega) ?_, d2⟩
 rw [hl]
 have := c.r1
 simp only [Wr.add, Wr.less]
 omega

set_option maxHeartbeats 2000000 in
set_option maxRecDepth 10000 in
theorem others_chr (w : World) : Calls Tryz.prog 149 #[.agg #[.int .i64 1, .int .i64 0, .int .i64 97, .int .i64 0, .bool false, .string ByteArray.empty, .slice none 0 0, .slice none 0 0]] w fun e w' => e = .returned (.bool true) ∧ Below w.heap.size w w' := by
 have CF := fields_1 (w.alloc (.cells #[.int .i64 1, .int .i64 0, .int .i64 97, .int .i64 0, .bool false, .string ByteArray.empty, .slice none 0 0, .slice none 0 0] 25))
 have HB : Hid (Below w.heap.size w ((w.alloc (.cells #[.int .i64 1, .int .i64 0, .int .i64 97, .int .i64 0, .bool false, .string ByteArray.empty, .slice none 0 0, .slice none 0 0] 25)).alloc (.cells #[.int .u64 (fieldsP 1)] 237))) := below2 _ _ _
 have hc : ((w.alloc (.cells #[.int .i64 1, .int .i64 0, .int .i64 97, .int .i64 0, .bool false, .string ByteArray.empty, .slice none 0 0, .slice none 0 0] 25)).alloc (.cells #[.int .u64 (fieldsP 1)] 237)).cell? ⟨w.heap.size + 1, 0, none⟩ = some (.int .u64 (fieldsP 1)) := bk2.cell 0 rfl
 have z : ByteArray.empty.toList.isEmpty = true := by decide +kernel
 have M2 := may_any 1 2 (w.heap.size + 1) _ hc
 rw [show may 1 2 = true by decide +kernel] at M2
 generalize fieldsP 1 = F at *
 clear hc
 go_enter Tryz.func149, Tryz.ntmps149
 go_wp2_with (first | (go_at_call 189; refine CF.mono ?_; rintro e w1 ⟨rfl, rfl⟩) | (go_at_call_of 190 (Value.int IntKind.u64 2); refine M2.mono ?_; rintro e w1 ⟨rfl, rfl⟩))
 go_ret
 exact ⟨rfl, HB.out⟩
set_option maxHeartbeats 2000000 in
set_option maxRecDepth 10000 in
theorem others_seq (ao : Option Addr) (cap : Nat) (w : World) : Calls Tryz.prog 149 #[.agg #[.int .i64 6, .int .i64 0, .int .i64 0, .int .i64 0, .bool false, .string ByteArray.empty, .slice none 0 0, .slice ao 1 cap]] w fun e w' => e = .returned (.bool true) ∧ Below w.heap.size w w' := by
 have CF := fields_6 (w.alloc (.cells #[.int .i64 6, .int .i64 0, .int .i64 0, .int .i64 0, .bool false, .string ByteArray.empty, .slice none 0 0, .slice ao 1 cap] 25))
 have HB : Hid (Below w.heap.size w ((w.alloc (.cells #[.int .i64 6, .int .i64 0, .int .i64 0, .int .i64 0, .bool false, .string ByteArray.empty, .slice none 0 0, .slice ao 1 cap] 25)).alloc (.cells #[.int .u64 (fieldsP 6)] 237))) := below2 _ _ _
 have hc : ((w.alloc (.cells #[.int .i64 6, .int .i64 0, .int .i64 0, .int .i64 0, .bool false, .string ByteArray.empty, .slice none 0 0, .slice ao 1 cap] 25)).alloc (.cells #[.int .u64 (fieldsP 6)] 237)).cell? ⟨w.heap.size + 1, 0, none⟩ = some (.int .u64 (fieldsP 6)) := bk2.cell 0 rfl
 have z : ByteArray.empty.toList.isEmpty = true := by decide +kernel
 have M32 := may_any 6 32 (w.heap.size + 1) _ hc
 rw [show may 6 32 = true by decide +kernel] at M32
 generalize fieldsP 6 = F at *
 clear hc
 go_enter Tryz.func149, Tryz.ntmps149
 go_wp2_with (first | (go_at_call 189; refine CF.mono ?_; rintro e w1 ⟨rfl, rfl⟩) | (go_at_call_of 190 (Value.int IntKind.u64 32); refine M32.mono ?_; rintro e w1 ⟨rfl, rfl⟩))
 go_ret
 exact ⟨rfl, HB.out⟩
set_option maxRecDepth 10000 in
set_option maxHeartbeats 4000000 in
theorem part_chr {w0 W : World} {base g : Nat} {s : Wr} (c : Ctx w0 W base g s) (h2 : 1 ≤ s.room) :
  Calls Tryz.prog 150 #[.pointer (some ⟨g, 0, none⟩), .agg #[.int .i64 1, .int .i64 0, .int .i64 97, .int .i64 0, .bool false, .string ByteArray.empty, .slice none 0 0, .slice none 0 0]] W fun e w' => e = .returned (.bool true) ∧ Ctx w0 w' base g ((s.less 1).add ⟨#[97]⟩) ∧ Kt base W w' := by
 have B1 : Below W.heap.size W (W.alloc (.cells #[.int .i64 1, .int .i64 0, .int .i64 97, .int .i64 0, .bool false, .string ByteArray.empty, .slice none 0 0, .slice none 0 0] 25)) := (Below.refl _ W).alloc (Nat.le_refl _) _
 have HX : Hid (Bk (W.alloc (.cells #[.int .i64 1, .int .i64 0, .int .i64 97, .int .i64 0, .bool false, .string ByteArray.empty, .slice none 0 0, .slice none 0 0] 25)) W.heap.size #[.int .i64 1, .int .i64 0, .int .i64 97, .int .i64 0, .bool false, .string ByteArray.empty, .slice none 0 0, .slice none 0 0] 25) := Bk.new W _ _
 have HC : Hid (∀ W', Below W.heap.size W W' → Ctx w0 W' base g s ∧ Kt base W W') := fun W' h => ⟨c.on h, Kt.of_below h c.size⟩
 have HB : Hid (Below W.heap.size W (W.alloc (.cells #[.int .i64 1, .int .i64 0, .int .i64 97, .int .i64 0, .bool false, .string ByteArray.empty, .slice none 0 0, .slice none 0 0] 25))) := B1
 have hgs := c.wr.lt
 have CO := others_chr (W.alloc (.cells #[.int .i64 1, .int .i64 0, .int .i64 97, .int .i64 0, .bool false, .string ByteArray.empty, .slice none 0 0, .slice none 0 0] 25))
 have HP : Hid (∀ W', Ctx w0 W' base g s → Calls Tryz.prog 151 #[.pointer (some ⟨g, 0, none⟩), .string ⟨#[97]⟩] W' fun e w' => e = .returned (.bool true) ∧ Ctx w0 w' base g ((s.less 1).add ⟨#[97]⟩) ∧ Kt base W' w') := fun W' c' => put_ctx c' (n := 1) rfl (by decide) (by omega)
 have HT : Hid (∀ W', Below W.heap.size W W' → Calls Tryz.prog 191 #[.int .i64 97, .bool false] W' fun e w' => e = .returned (.string ⟨#[97]⟩) ∧ Below W.heap.size W w') := fun W' h => by
  have := print_a W' ((c.on h).penv)
  exact this.mono (by rintro e w' ⟨rfl, d⟩; exact ⟨rfl, h.trans (below_less d h.size)⟩)
 clear c B1
 go_enter Tryz.func150, Tryz.ntmps150
 go_wp2_with (first
  | (go_at_call 149; refine CO.mono ?_; rintro e w1 ⟨rfl, d⟩; have HD : Hid (Below W.heap.size W w1) := HB.out.trans (below_less d (by simp)); have x0 := (HX.out.on d).cell 0 (u := .int .i64 1) rfl; have x1 := (HX.out.on d).cell 1 (u := .int .i64 0) rfl; have x2 := (HX.out.on d).cell 2 (u := .int .i64 97) rfl; have x3 := (HX.out.on d).cell 3 (u := .int .i64 0) rfl; have x4 := (HX.out.on d).cell 4 (u := .bool false) rfl; have x5 := (HX.out.on d).cell 5 (u := .string ByteArray.empty) rfl; have x6 := (HX.out.on d).cell 6 (u := .slice none 0 0) rfl; have x7 := (HX.out.on d).cell 7 (u := .slice none 0 0) rfl; clear d)
  | (go_at_call 191; refine (HT.out _ HD.out).mono ?_; clear HD x0 x1 x2 x3 x4 x5 x6 x7; rintro e w1 ⟨rfl, d⟩; have HD : Hid (Below W.heap.size W w1) := d; clear d)
  | (go_at_call 151; refine (HP.out _ (HC.out _ HD.out).1).mono ?_; rintro e w2 ⟨rfl, d1, d2⟩; have HR : Hid (Ctx w0 w2 base g ((s.less 1).add ⟨#[97]⟩)) := d1; have HK : Hid (Kt base _ w2) := d2; clear d1 d2))
 go_ret
 exact ⟨rfl, HR.out, (HC.out _ HD.out).2.trans HK.out⟩

set_option maxRecDepth 10000 in
set_option maxHeartbeats 4000000 in
theorem seq_1 {w0 W : World} {base g : Nat} {S0 S1 : Wr} {kb ko cap : Nat} (c : Ctx w0 W base g S0) (hk : kb < base) (hcap : 1 ≤ cap) (e0 : At8 w0 kb ko (.agg #[.int .i64 1, .int .i64 0, .int .i64 97, .int .i64 0, .bool false, .string ByteArray.empty, .slice none 0 0, .slice none 0 0])) (HCH : Hid (∀ W', Ctx w0 W' base g S0 → Calls Tryz.prog 150 #[.pointer (some ⟨g, 0, none⟩), .agg #[.int .i64 1, .int .i64 0, .int .i64 97, .int .i64 0, .bool false, .string ByteArray.empty, .slice none 0 0, .slice none 0 0]] W' fun e w' => e = .returned (.bool true) ∧ Ctx w0 w' base g S1 ∧ Kt base W' w')) :
  Calls Tryz.prog 104 #[.pointer (some ⟨g, 0, none⟩), .agg #[.int .i64 6, .int .i64 0, .int .i64 0, .int .i64 0, .bool false, .string ByteArray.empty, .slice none 0 0, .slice (some ⟨kb, ko, none⟩) 1 cap]] W fun e w' => e = .returned (.bool true) ∧ Ctx w0 w' base g S1 ∧ Kt base W w' := by
 have B1 : Below W.heap.size W (W.alloc (.cells #[.int .i64 6, .int .i64 0, .int .i64 0, .int .i64 0, .bool false, .string ByteArray.empty, .slice none 0 0, .slice (some ⟨kb, ko, none⟩) 1 cap] 25)) := (Below.refl _ W).alloc (Nat.le_refl _) _
 have HX : Hid (Bk (W.alloc (.cells #[.int .i64 6, .int .i64 0, .int .i64 0, .int .i64 0, .bool false, .string ByteArray.empty, .slice none 0 0, .slice (some ⟨kb, ko, none⟩) 1 cap] 25)) W.heap.size #[.int .i64 6, .int .i64 0, .int .i64 0, .int .i64 0, .bool false, .string ByteArray.empty, .slice none 0 0, .slice (some ⟨kb, ko, none⟩) 1 cap] 25) := Bk.new W _ _
 have HC : Hid (∀ W', Below W.heap.size W W' → Ctx w0 W' base g S0 ∧ Kt base W W') := fun W' h => ⟨c.on h, Kt.of_below h c.size⟩
 have HB : Hid (Below W.heap.size W (W.alloc (.cells #[.int .i64 6, .int .i64 0, .int .i64 0, .int .i64 0, .bool false, .string ByteArray.empty, .slice none 0 0, .slice (some ⟨kb, ko, none⟩) 1 cap] 25))) := B1
 have CO := others_seq (some ⟨kb, ko, none⟩) cap (W.alloc (.cells #[.int .i64 6, .int .i64 0, .int .i64 0, .int .i64 0, .bool false, .string ByteArray.empty, .slice none 0 0, .slice (some ⟨kb, ko, none⟩) 1 cap] 25))
 have HE0 : Hid (∀ W', Below base w0 W' → At8 W' kb ko (.agg #[.int .i64 1, .int .i64 0, .int .i64 97, .int .i64 0, .bool false, .string ByteArray.empty, .slice none 0 0, .slice none 0 0])) := fun W' h => e0.below h hk
 clear c B1 e0
 go_enter Tryz.func104, Tryz.ntmps104
 go_wp2_with (go_at_call 149; refine CO.mono ?_; rintro e w1 ⟨rfl, d⟩; have HD : Hid (Below W.heap.size W w1) := HB.out.trans (below_less d (by simp)); have x0 := (HX.out.on d).cell 0 (u := .int .i64 6) rfl; have x1 := (HX.out.on d).cell 1 (u := .int .i64 0) rfl; have x2 := (HX.out.on d).cell 2 (u := .int .i64 0) rfl; have x3 := (HX.out.on d).cell 3 (u := .int .i64 0) rfl; have x4 := (HX.out.on d).cell 4 (u := .bool false) rfl; have x5 := (HX.out.on d).cell 5 (u := .string ByteArray.empty) rfl; have x6 := (HX.out.on d).cell 6 (u := .slice none 0 0) rfl; have x7 := (HX.out.on d).cell 7 (u := .slice (some ⟨kb, ko, none⟩) 1 cap) rfl; clear d)
 go_loopw [18] (fun i wr => ∃ (j : Nat), j ≤ 1 ∧ i = .int .i64 j ∧ Hid (Ctx w0 wr base g (if j = 0 then S0 else S1)) ∧ Hid (Kt base W wr)) (fun i _ => 1 - (intOf i).toNat)
 case atStart => exact ⟨0, by omega, rfl, (HC.out _ HD.out).1, (HC.out _ HD.out).2⟩
 case round =>
  obtain ⟨j, hj, rfl, HW, HKT⟩ := hrel
  clear HD HC HX HB x0 x1 x2 x3 x4 x5 x6 x7
  by_cases hj0 : j = 0
  ·have HW : Hid (Ctx w0 wr base g S0) := by have h := HW.out; rw [if_pos hj0] at h; exact h
   have hlt : j < 1 := by omega
   have hk8 : At8 wr kb (ko + j * 8) (.agg #[.int .i64 1, .int .i64 0, .int .i64 97, .int .i64 0, .bool false, .string ByteArray.empty, .slice none 0 0, .slice none 0 0]) := by rw [show ko + j * 8 = ko by rw [hj0]; omega]; exact HE0.out _ HW.out.bel
   obtain ⟨c0, c1, c2, c3, c4, c5, c6, c7, ee, k0, k1, k2, k3, k4, k5, k6, k7⟩ := hk8
   simp only [Value.agg.injEq, Array.mk.injEq, List.cons.injEq, and_true] at ee
   obtain ⟨rfl, rfl, rfl, rfl, rfl, rfl, rfl, rfl⟩ := ee
   have hsz := HW.out.size
   have HN : Hid (Ctx w0 (wr.alloc (.cells #[.int .i64 1, .int .i64 0, .int .i64 97, .int .i64 0, .bool false, .string ByteArray.empty, .slice none 0 0, .slice none 0 0] 25)) base g S0) := HW.out.on ((Below.refl _ wr).alloc (Nat.le_refl _) _)
   have HK1 : Hid (Kt base W (wr.alloc (.cells #[.int .i64 1, .int .i64 0, .int .i64 97, .int .i64 0, .bool false, .string ByteArray.empty, .slice none 0 0, .slice none 0 0] 25))) := HKT.out.trans (Kt.of_below ((Below.refl _ wr).alloc (Nat.le_refl _) _) hsz)
   have HJ : Hid (j = 0) := hj0
   clear hj0 HW HKT HE0
   go_wp2_with (go_at_call 150; refine (HCH.out _ HN.out).mono ?_; rintro e w2 ⟨rfl, d1, d2⟩; have HR : Hid (Ctx w0 w2 base g S1) := d1; have HK2 : Hid (Kt base _ w2) := d2; clear d1 d2)
   go_roundw
   case rel => exact ⟨j + 1, by have := HJ.out; omega, by go_num, by rw [if_neg (by omega)]; exact HR, HK1.out.trans HK2.out⟩
   case measure => simp [intOf]; have := HJ.out; omega
  ·have hj2 : j = 1 := by omega
   have HWF : Hid (Ctx w0 wr base g S1) := by have h := HW.out; rw [if_neg hj0] at h; exact h
   clear HE0 HCH HW hj0
   subst hj2
   go_wp2
   go_ret
   exact ⟨rfl, HWF.out, HKT.out⟩
set_option maxRecDepth 10000 in
set_option maxHeartbeats 4000000 in
theorem body_1 {w0 W : World} {base g : Nat} {S0 S1 : Wr} {kb ko cap : Nat} (c : Ctx w0 W base g S0) (hk : kb < base) (hcap : 1 ≤ cap) (e0 : At8 w0 kb ko (.agg #[.int .i64 1, .int .i64 0, .int .i64 97, .int .i64 0, .bool false, .string ByteArray.empty, .slice none 0 0, .slice none 0 0])) (HCH : Hid (∀ W', Ctx w0 W' base g S0 → Calls Tryz.prog 150 #[.pointer (some ⟨g, 0, none⟩), .agg #[.int .i64 1, .int .i64 0, .int .i64 97, .int .i64 0, .bool false, .string ByteArray.empty, .slice none 0 0, .slice none 0 0]] W' fun e w' => e = .returned (.bool true) ∧ Ctx w0 w' base g S1 ∧ Kt base W' w')) :
  Calls Tryz.prog 70 #[.pointer (some ⟨g, 0, none⟩), .agg #[.int .i64 6, .int .i64 0, .int .i64 0, .int .i64 0, .bool false, .string ByteArray.empty, .slice none 0 0, .slice (some ⟨kb, ko, none⟩) 1 cap]] W fun e w' => e = .returned (.bool true) ∧ Ctx w0 w' base g S1 ∧ Kt base W w' := by
 have HC : Hid (∀ W', Below W.heap.size W W' → Ctx w0 W' base g S0 ∧ Kt base W W') := fun W' h => ⟨c.on h, Kt.of_below h c.size⟩
 have HB : Hid (Below W.heap.size W (W.alloc (.cells #[.int .i64 6, .int .i64 0, .int .i64 0, .int .i64 0, .bool false, .string ByteArray.empty, .slice none 0 0, .slice (some ⟨kb, ko, none⟩) 1 cap] 25))) := (Below.refl _ W).alloc (Nat.le_refl _) _
 have CS := seq_1 (HC.out _ HB.out).1 hk hcap e0 HCH
 clear c e0
 go_enter Tryz.func70, Tryz.ntmps70
 go_wp2_with (go_at_call 104; refine CS.mono ?_; rintro e w2 ⟨rfl, d1, d2⟩; have HR : Hid (Ctx w0 w2 base g S1) := d1; have HK2 : Hid (Kt base _ w2) := d2; clear d1 d2)
 go_ret
 exact ⟨rfl, HR.out, (HC.out _ HB.out).2.trans HK2.out⟩
def S0 : Wr := ⟨[], 2000, 0, 0, []⟩
def S1 : Wr := (S0.less 1).add ⟨#[97]⟩
theorem S1_ne : S1.text ≠ [] := by decide
def XA : ByteArray := ⟨S1.text.toArray⟩
set_option maxRecDepth 10000 in
set_option maxHeartbeats 4000000 in
theorem pattern_1 {W : World} {kb ko cap : Nat} (E : PE W) (hcap : 1 ≤ cap) (hk : kb < W.heap.size) (e0 : At8 W kb ko (.agg #[.int .i64 1, .int .i64 0, .int .i64 97, .int .i64 0, .bool false, .string ByteArray.empty, .slice none 0 0, .slice none 0 0])) :
  Calls Tryz.prog 49 #[.agg #[.int .i64 6, .int .i64 0, .int .i64 0, .int .i64 0, .bool false, .string ByteArray.empty, .slice none 0 0, .slice (some ⟨kb, ko, none⟩) 1 cap]] W fun e w' => e = .returned (.tuple #[.string XA, .bool true]) ∧ Below W.heap.size W w' := by
 have HB : Hid (Below W.heap.size W ((W.alloc (.cells #[.int .i64 6, .int .i64 0, .int .i64 0, .int .i64 0, .bool false, .string ByteArray.empty, .slice none 0 0, .slice (some ⟨kb, ko, none⟩) 1 cap] 25)).alloc (.cells #[.pointer none, .slice none 0 0, .int .i64 2000, .int .i64 0, .int .i64 0, .slice none 0 0] 119))) := below2 _ _ _
 have HC : Ctx W ((W.alloc (.cells #[.int .i64 6, .int .i64 0, .int .i64 0, .int .i64 0, .bool false, .string ByteArray.empty, .slice none 0 0, .slice (some ⟨kb, ko, none⟩) 1 cap] 25)).alloc (.cells #[.pointer none, .slice none 0 0, .int .i64 2000, .int .i64 0, .int .i64 0, .slice none 0 0] 119)) W.heap.size (W.heap.size + 1) S0 := ⟨E, rfl, HB.out, ⟨by omega, .pointer none, .slice none 0 0, .slice none 0 0, bk2, .inl rfl, World.ownsRow_nil _ _ _ _, World.ownsRow_nil _ _ _ _⟩, by decide, by decide⟩
 have CB := body_1 (S1 := S1) HC hk hcap e0 (fun W' c => part_chr c (by decide))
 have CST : Hid (∀ W', Ctx W W' W.heap.size (W.heap.size + 1) S1 → Calls Tryz.prog 71 #[.pointer (some ⟨W.heap.size + 1, 0, none⟩)] W' fun e w' => e = .returned (.string XA) ∧ Below W.heap.size W' w') := fun W' c => string_any _ _ _ _ c.wr S1_ne
 clear HC e0 E
 generalize XA = X at *
 go_enter Tryz.func49, Tryz.ntmps49
 go_wp2_with (first
  | (go_at_call 70; refine CB.mono ?_; rintro e w1 ⟨rfl, d1, d2⟩; have HR : Hid (Ctx W w1 W.heap.size (W.heap.size + 1) S1) := d1; clear d1 d2)
  | (go_at_call 71; refine (CST.out _ HR.out).mono ?_; rintro e w2 ⟨rfl, d⟩; have HF : Hid (Below W.heap.size W w2) := HR.out.bel.trans d; clear d))
 go_ret2
 exact ⟨rfl, HF.out⟩
set_option maxRecDepth 10000 in
theorem can_1 {W : World} {kb ko cap : Nat} (E : PE W) (hcap : 1 ≤ cap) (hk : kb < W.heap.size) (e0 : At8 W kb ko (.agg #[.int .i64 1, .int .i64 0, .int .i64 97, .int .i64 0, .bool false, .string ByteArray.empty, .slice none 0 0, .slice none 0 0])) :
  Calls Tryz.prog 20 #[.agg #[.int .i64 6, .int .i64 0, .int .i64 0, .int .i64 0, .bool false, .string ByteArray.empty, .slice none 0 0, .slice (some ⟨kb, ko, none⟩) 1 cap]] W fun e w' => e = .returned (.bool true) ∧ Below W.heap.size W w' := by
 have HB : Hid (Below W.heap.size W (W.alloc (.cells #[.int .i64 6, .int .i64 0, .int .i64 0, .int .i64 0, .bool false, .string ByteArray.empty, .slice none 0 0, .slice (some ⟨kb, ko, none⟩) 1 cap] 25))) := (Below.refl _ W).alloc (Nat.le_refl _) _
 have CB := pattern_1 (E.below HB.out) hcap (by simp; omega) (e0.below HB.out hk)
 clear e0 E
 generalize XA = X at *
 go_enter Tryz.func20, Tryz.ntmps20
 go_wp2_with (go_at_call 49; refine CB.mono ?_; rintro e w1 ⟨rfl, d⟩; have HF : Hid (Below W.heap.size W w1) := HB.out.trans (below_less d (by simp)); clear d)
 go_ret
 exact ⟨rfl, HF.out⟩
end Go.Proofs.YtinlolmjafjhnaaGreatDoor.low
end
