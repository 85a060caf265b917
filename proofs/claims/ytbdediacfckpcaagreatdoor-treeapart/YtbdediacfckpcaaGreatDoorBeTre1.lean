/- Texts that the proof leans on, one behind the other. -/
import Derived.Test.YtbdediacfckpcaaGreatDoorBeNod1
import Derived.Deep.RegionWith
import Derived.Test.YtbdediacfckpcaaGreatDoorBeTok8
import Derived.Test.YtbdediacfckpcaaGreatDoorBeTok7
import Derived.Lib.AppendStr
import Derived.Laws.Rows

section
/- fieldsOf and othersZero of package tree. -/
set_option linter.unusedVariables false
set_option linter.unusedSimpArgs false
namespace Go.Proofs.YtbdediacfckpcaaGreatDoor.tre
open Go.RowKit nod
open Go.Proofs.YtbdediacfckpcaaGreatDoor.rng (R RV ret_int ret_bool below_drewN info_parts own_below')

/-- Which fields a kind of nodes has. -/
def fieldsP (k : Int) : Int :=
  if k = 1 ∨ k = 13 then 2 else if k = 3 then 41 else if k = 4 then 6 else if k = 5 then 24 else if k = 6 ∨ k = 7 ∨ k = 11 then 32 else if k = 8 then 39 else if k = 9 then 50 else if k = 10 then 33 else if k = 12 then 1 else 0
/-- Has the kind k the field f. -/
def may (k f : Int) : Bool := bits .and .u64 (fieldsP k) f != 0
def othersZ : Nd → Bool
  | .mk k m a b g n s ks => s.isEmpty && (m == 0 || may k 1) && (a == 0 || may k 2) && (b == 0 || may k 4) && (!g || may k 8) && (n.toList.isEmpty || may k 16) && (ks.isEmpty || may k 32)

set_option maxHeartbeats 2000000 in
theorem fields_any (k : Int) (w : World) : Calls Tryz.prog 46 #[.int .i64 k] w fun e w' => e = .returned (.int .u64 (fieldsP k)) ∧ w' = w := by
  by_cases c1 : k = 1
  · subst c1; go_enter Tryz.func46, Tryz.ntmps46; go_wp2; go_ret; exact ⟨rfl, rfl⟩
  by_cases c13 : k = 13
  · subst c13; go_enter Tryz.func46, Tryz.ntmps46; go_wp2; go_ret; exact ⟨rfl, rfl⟩
  by_cases c3 : k = 3
  · subst c3; go_enter Tryz.func46, Tryz.ntmps46; go_wp2; go_ret; exact ⟨rfl, rfl⟩
  by_cases c4 : k = 4
  · subst c4; go_enter Tryz.func46, Tryz.ntmps46; go_wp2; go_ret; exact ⟨rfl, rfl⟩
  by_cases c5 : k = 5
  · subst c5; go_enter Tryz.func46, Tryz.ntmps46; go_wp2; go_ret; exact ⟨rfl, rfl⟩
  by_cases c6 : k = 6
  · subst c6; go_enter Tryz.func46, Tryz.ntmps46; go_wp2; go_ret; exact ⟨rfl, rfl⟩
  by_cases c7 : k = 7
  · subst c7; go_enter Tryz.func46, Tryz.ntmps46; go_wp2; go_ret; exact ⟨rfl, rfl⟩
  by_cases c11 : k = 11
  · subst c11; go_enter Tryz.func46, Tryz.ntmps46; go_wp2; go_ret; exact ⟨rfl, rfl⟩
  by_cases c8 : k = 8
  · subst c8; go_enter Tryz.func46, Tryz.ntmps46; go_wp2; go_ret; exact ⟨rfl, rfl⟩
  by_cases c9 : k = 9
  · subst c9; go_enter Tryz.func46, Tryz.ntmps46; go_wp2; go_ret; exact ⟨rfl, rfl⟩
  by_cases c10 : k = 10
  · subst c10; go_enter Tryz.func46, Tryz.ntmps46; go_wp2; go_ret; exact ⟨rfl, rfl⟩
  by_cases c12 : k = 12
  · subst c12; go_enter Tryz.func46, Tryz.ntmps46; go_wp2; go_ret; exact ⟨rfl, rfl⟩
  have HE : Hid (fieldsP k = 0) := by unfold Hid fieldsP; rw [if_neg (by omega), if_neg c3, if_neg c4, if_neg c5, if_neg (by omega), if_neg c8, if_neg c9, if_neg c10, if_neg c12]
  have f1 : (k == 1) = false := by simpa using c1
  have f13 : (k == 13) = false := by simpa using c13
  have f3 : (k == 3) = false := by simpa using c3
  have f4 : (k == 4) = false := by simpa using c4
  have f5 : (k == 5) = false := by simpa using c5
  have f6 : (k == 6) = false := by simpa using c6
  have f7 : (k == 7) = false := by simpa using c7
  have f11 : (k == 11) = false := by simpa using c11
  have f8 : (k == 8) = false := by simpa using c8
  have f9 : (k == 9) = false := by simpa using c9
  have f10 : (k == 10) = false := by simpa using c10
  have f12 : (k == 12) = false := by simpa using c12
  clear c1 c13 c3 c4 c5 c6 c7 c11 c8 c9 c10 c12
  go_enter Tryz.func46, Tryz.ntmps46
  go_wp2
  go_ret
  exact ⟨by rw [HE.out]; rfl, rfl⟩
theorem may_any (k f : Int) (ob : Nat) (w : World) (h : w.cell? ⟨ob, 0, none⟩ = some (.int .u64 (fieldsP k))) :
    Calls Tryz.prog 47 #[.int .u64 f, .pointer (some ⟨ob, 0, none⟩)] w fun e w' => e = .returned (.bool (may k f)) ∧ w' = w := by
  go_enter Tryz.func47, Tryz.ntmps47
  go_wp2
  go_ret
  exact ⟨rfl, rfl⟩

end Go.Proofs.YtbdediacfckpcaaGreatDoor.tre
end

section
/- The writer of a tree's pattern in memory, and what strings.Builder does that lies in it. -/
set_option linter.unusedVariables false
set_option linter.unusedSimpArgs false
namespace Go.Proofs.YtbdediacfckpcaaGreatDoor.tre
open Go.RowKit nod

/-- What a writer holds. -/
structure Wr where
  text : List UInt8
  room : Int
  depth : Int
  groups : Int
  names : List ByteArray

/-- The writer s lies in block g. -/
def WrAt (w : World) (base g : Nat) (s : Wr) : Prop := base ≤ g ∧ ∃ p bv nv, w.heap[g]? = some (.cells #[p, bv, .int .i64 s.room, .int .i64 s.depth, .int .i64 s.groups, nv] 52 (0, 0)) ∧
  (p = .pointer none ∨ p = .pointer (some ⟨g, 0, none⟩)) ∧ w.ownsRow base 5 1 bv s.text.length (Lib.byteCells s.text) ∧ w.ownsRow base 9 1 nv s.names.length (s.names.map Value.string)

/-- From w to w' nothing below base has changed, and no block but writers, rows of bytes and rows of texts. -/
structure Kt (base : Nat) (w w' : World) : Prop where
  below : Below base w w'
  block : ∀ (k : Nat) (cs : Array Value) (t : TypeId) (fr : Nat × Nat), w.heap[k]? = some (.cells cs t fr) → t ≠ 52 → t ≠ 5 → t ≠ 9 → w'.heap[k]? = some (.cells cs t fr)
theorem Kt.refl (base : Nat) (w : World) : Kt base w w := ⟨Below.refl _ _, fun _ _ _ _ h _ _ _ => h⟩
theorem Kt.trans {base : Nat} {a b c : World} (h : Kt base a b) (k : Kt base b c) : Kt base a c := ⟨h.below.trans k.below, fun i cs t fr h1 n1 n2 n3 => k.block i cs t fr (h.block i cs t fr h1 n1 n2 n3) n1 n2 n3⟩
theorem Kt.of_below {base : Nat} {w w' : World} (h : Below w.heap.size w w') (hb : base ≤ w.heap.size) : Kt base w w' :=
  ⟨below_less h hb, fun k cs t fr h1 _ _ _ => (h.block k (Array.getElem?_eq_some_iff.1 h1).1).trans h1⟩
theorem Bk.kt {base : Nat} {w w' : World} {g : Nat} {cs : Array Value} {t : TypeId} (h : Bk w g cs t) (k : Kt base w w') (h1 : t ≠ 52) (h2 : t ≠ 5) (h3 : t ≠ 9) : Bk w' g cs t := k.block g cs t (0, 0) h h1 h2 h3
theorem WrAt.lt {w : World} {base g : Nat} {s : Wr} (h : WrAt w base g s) : g < w.heap.size := by
  obtain ⟨_, p, bv, nv, h1, _⟩ := h
  exact (Array.getElem?_eq_some_iff.1 h1).1
theorem WrAt.on {w w' : World} {base g : Nat} {s : Wr} (h : WrAt w base g s) (hb : Below w.heap.size w w') : WrAt w' base g s := by
  have hl := h.lt
  obtain ⟨h0, p, bv, nv, h1, h2, h3, h4⟩ := h
  exact ⟨h0, p, bv, nv, (hb.block g hl).trans h1, h2, rng.own_below' h3 hb, rng.own_below' h4 hb⟩
/-- Rows of another type lie elsewhere. -/
theorem own_off {w : World} {base e n g : Nat} {v : Value} {xs : List Value} {cs : Array Value} {t : TypeId} {fr : Nat × Nat} (h : w.ownsRow base e 1 v n xs) (hg : w.heap[g]? = some (.cells cs t fr)) (ht : t ≠ e) : v.ownBlock ≠ some g := by
  rcases h.2 with ⟨rfl, _⟩ | ⟨g', cap, cur, rfl, _, hg', _⟩
  · simp [Value.ownBlock]
  · intro h
    simp only [Value.ownBlock, Option.some.injEq] at h
    subst h
    rw [hg'] at hg
    simp only [Option.some.injEq, Obj.cells.injEq] at hg
    exact ht hg.2.1.symm
theorem own_set {w : World} {base e n g i : Nat} {v u : Value} {xs : List Value} (h : w.ownsRow base e 1 v n xs) (hg : v.ownBlock ≠ some g) : (w.setCell ⟨g, i, none⟩ u).ownsRow base e 1 v n xs := by
  refine h.kept (row := some g) ⟨rfl, rfl, rfl, by simp [World.setCell], fun k _ hk => Below.heap_setCell _ _ _ _ (fun e => hk (by simp [e]))⟩ ?_
  exact Or.inr hg
theorem neWB : (52 : TypeId) ≠ 5 := by decide
theorem neWS : (52 : TypeId) ≠ 9 := by decide
theorem neBS : (5 : TypeId) ≠ 9 := by decide

/-- The writer's own numbers are set. -/
theorem WrAt.set {w : World} {base g : Nat} {s : Wr} (h : WrAt w base g s) (s' : Wr) (i : Nat) (u : Value) (ht : s'.text = s.text) (hn : s'.names = s.names)
    (hc : (#[s.room, s.depth, s.groups].map (Value.int .i64)).setIfInBounds i u = #[s'.room, s'.depth, s'.groups].map (Value.int .i64)) (hi : i < 3) : WrAt (w.setCell ⟨g, i + 2, none⟩ u) base g s' ∧ Kt base w (w.setCell ⟨g, i + 2, none⟩ u) := by
  obtain ⟨h0, p, bv, nv, h1, h2, h3, h4⟩ := h
  have b1 := own_off h3 h1 neWB
  have b2 := own_off h4 h1 neWS
  refine ⟨⟨h0, p, bv, nv, ?_, h2, by rw [ht]; exact own_set h3 b1, by rw [hn]; exact own_set h4 b2⟩, ⟨(Below.refl _ w).setCell (p := ⟨g, i + 2, none⟩) h0 u, fun k cs t fr hk n1 n2 n3 => ?_⟩⟩
  · simp only [World.setCell, Array.getElem?_modify, if_true, h1, Option.map_some]
    match i, hi with
    | 0, _ => simp at hc; simp [hc]
    | 1, _ => simp at hc; simp [hc]
    | 2, _ => simp at hc; simp [hc]
  · by_cases e : k = g
    · subst e
      rw [h1] at hk
      simp only [Option.some.injEq, Obj.cells.injEq] at hk
      exact absurd hk.2.1.symm n1
    · exact (Below.heap_setCell _ _ _ _ e).trans hk

theorem sizeBd : (Tryz.prog.info? 50).map (·.size) = some 2 := by kernel_rfl
set_option maxHeartbeats 1000000 in
set_option maxRecDepth 100000 in
/-- copyCheck of a writer's builder that has been used. -/
theorem check_used (g : Nat) (w : World) (h0 : w.cell? ⟨g, 0, none⟩ = some (.pointer (some ⟨g, 0, none⟩))) :
    Calls Tryz.prog 73 #[.pointer (some ⟨g, 0, none⟩)] w fun e w' => e = .returned (.tuple #[]) ∧ w' = w := by
  obtain ⟨j, hj, _⟩ := Option.map_eq_some_iff.1 sizeBd
  go_enter Tryz.func73, Tryz.ntmps73
  go_wp2
  rw [Lib.run_neq_ptr_same w _ Tryz.underlying47 hj]
  go_wp2
  go_end0
  exact ⟨rfl, rfl⟩
set_option maxHeartbeats 1000000 in
set_option maxRecDepth 100000 in
/-- copyCheck of a writer's builder that is fresh. -/
theorem check_fresh (g : Nat) (w : World) (h0 : w.cell? ⟨g, 0, none⟩ = some (.pointer none)) (hsh : w.shape? g = some (52, 6)) (hfz : w.frozen? ⟨g, 0, none⟩ = false) :
    Calls Tryz.prog 73 #[.pointer (some ⟨g, 0, none⟩)] w fun e w' => e = .returned (.tuple #[]) ∧ w' = w.setCell ⟨g, 0, none⟩ (.pointer (some ⟨g, 0, none⟩)) := by
  obtain ⟨j, hj, hjs⟩ := Option.map_eq_some_iff.1 sizeBd
  go_enter Tryz.func73, Tryz.ntmps73
  go_wp2
  rw [Lib.run_to_unsafe w ⟨g, 0, none⟩ Tryz.underlying47 Tryz.underlying100 hj (by rw [hjs]; decide) hsh (Nat.zero_lt_succ _)]
  simp only [Result.andThen]
  rw [Oper.upon_value]
  go_wp2
  rw [run_callFunc_extern Tryz.func89 (by kernel_rfl) (by kernel_rfl) (by kernel_rfl) (e := Extern.AbiNoEscape.same) (by kernel_rfl)]
  rw [Lib.run_noEscape]
  simp only [Result.andThen]
  rw [Oper.upon_value]
  go_wp2
  rw [Lib.run_from_unsafe w ⟨g, 0, none⟩ Tryz.underlying100 Tryz.underlying47 hj hsh (by kernel_rfl)]
  simp only [Result.andThen]
  rw [Oper.upon_value]
  go_wp2
  go_end0
  exact ⟨rfl, rfl⟩
end Go.Proofs.YtbdediacfckpcaaGreatDoor.tre
end

section
/- What the writer's small methods do. -/
set_option linter.unusedVariables false
set_option linter.unusedSimpArgs false
namespace Go.Proofs.YtbdediacfckpcaaGreatDoor.tre
open Go.RowKit nod
open Go.Proofs.YtbdediacfckpcaaGreatDoor.rng (ret_int ret_bool below_drewN info_parts own_below')

theorem infoByte : (Tryz.prog.info? 5).map (fun i => (i.zero, i.size, i.bytes)) = some (some (.int .u8 0), 1, 1) := by kernel_rfl
theorem strCells_bytes (s : ByteArray) : Lib.strCells s = Lib.byteCells s.data.toList := by
  simp [Lib.strCells, Lib.byteCells]
/-- A text behind what is written. -/
def Wr.add (s : Wr) (t : ByteArray) : Wr := { s with text := s.text ++ t.data.toList }

set_option maxHeartbeats 2000000 in
set_option maxRecDepth 100000 in
theorem write_any (base g : Nat) (s : Wr) (t : ByteArray) (w : World) (h : WrAt w base g s) (hl : s.text.length + t.size ≤ 140737488355328) :
    Calls Tryz.prog 56 #[.pointer (some ⟨g, 0, none⟩), .string t] w fun e w' => e = .returned (.tuple #[.int .i64 t.size, .nilIface]) ∧ WrAt w' base g (s.add t) ∧ Kt base w w' := by
  obtain ⟨i0, hi, hz0, hz1, hz2⟩ := info_parts infoByte
  have hbw : base ≤ w.heap.size := Nat.le_trans h.1 (Nat.le_of_lt h.lt)
  -- behind copyCheck
  have C : Hid (Calls Tryz.prog 73 #[.pointer (some ⟨g, 0, none⟩)] w fun e w' => e = .returned (.tuple #[]) ∧ (∃ bv nv, w'.heap[g]? = some (.cells #[.pointer (some ⟨g, 0, none⟩), bv, .int .i64 s.room, .int .i64 s.depth, .int .i64 s.groups, nv] 52 (0, 0)) ∧ w'.ownsRow base 5 1 bv s.text.length (Lib.byteCells s.text) ∧ w'.ownsRow base 9 1 nv s.names.length (s.names.map Value.string)) ∧ Kt base w w') := by
    obtain ⟨h0, p, bv, nv, h1, h2, h3, h4⟩ := h
    rcases h2 with rfl | rfl
    · refine (check_fresh g w (by rw [Lib.cell_of_heap h1]; rfl) (by simp [World.shape?, h1]) (Lib.frozen_of_heap h1 0)).mono ?_
      rintro e w' ⟨rfl, rfl⟩
      refine ⟨rfl, ⟨bv, nv, ?_, own_set h3 (own_off h3 h1 neWB), own_set h4 (own_off h4 h1 neWS)⟩, ⟨(Below.refl _ w).setCell (p := ⟨g, 0, none⟩) h0 _, fun k cs t fr hk n1 n2 n3 => ?_⟩⟩
      · simp [World.setCell, Array.getElem?_modify, h1]
      · by_cases e : k = g
        · subst e
          rw [h1] at hk
          simp only [Option.some.injEq, Obj.cells.injEq] at hk
          exact absurd hk.2.1.symm n1
        · exact (Below.heap_setCell _ _ _ _ e).trans hk
    · refine (check_used g w (by rw [Lib.cell_of_heap h1]; rfl)).mono ?_
      rintro e w' ⟨rfl, rfl⟩
      exact ⟨rfl, ⟨bv, nv, h1, h3, h4⟩, Kt.refl _ _⟩
  have hbg := h.1
  clear h
  go_enter Tryz.func56, Tryz.ntmps56
  go_wp2_with (go_at_call 73; refine C.out.mono ?_)
  rintro e w1 ⟨rfl, ⟨bv, nv, hbk, hown, hnm⟩, k1⟩
  have c0 : w1.cell? ⟨g, 0, none⟩ = some (.pointer (some ⟨g, 0, none⟩)) := by rw [Lib.cell_of_heap hbk]; rfl
  have c1 : w1.cell? ⟨g, 1, none⟩ = some bv := by rw [Lib.cell_of_heap hbk]; rfl
  have K1 : Hid (Kt base w w1) := k1
  have HN : Hid (w1.ownsRow base 9 1 nv s.names.length (s.names.map Value.string)) := hnm
  have hs1 : base ≤ w1.heap.size := Nat.le_trans hbw k1.below.size
  have HBK : Hid (w1.heap[g]? = some (.cells #[.pointer (some ⟨g, 0, none⟩), bv, .int .i64 s.room, .int .i64 s.depth, .int .i64 s.groups, nv] 52 (0, 0))) := hbk
  have HO : Hid (w1.ownsRow base 5 1 bv s.text.length (Lib.byteCells s.text)) := hown
  clear k1 hnm hbk C
  go_wp2_with (at_builtin; refine Lib.wpList_append_own_string _ rfl _ _ 48 9 rfl base 5 i0 Tryz.underlying48 Tryz.underlying9 hi hz0 hz1 hz2 _ _ _ rfl hown t rfl ?c3 ?c4 ?c5 ?_)
  case c3 => unfold maxLen; omega
  case c4 => omega
  case c5 => exact hs1
  intro v' w2 hown' hgrow _
  have hlt : g < w1.heap.size := (Array.getElem?_eq_some_iff.1 HBK.out).1
  have hne := own_off HO.out HBK.out neWB
  have hb2 : w2.heap[g]? = some (.cells #[.pointer (some ⟨g, 0, none⟩), bv, .int .i64 s.room, .int .i64 s.depth, .int .i64 s.groups, nv] 52 (0, 0)) := by
    rw [hgrow.block g hlt (fun e => hne e.symm)]
    exact HBK.out
  have d0 : w2.cell? ⟨g, 0, none⟩ = some (.pointer (some ⟨g, 0, none⟩)) := by rw [Lib.cell_of_heap hb2]; rfl
  have d1 : w2.cell? ⟨g, 1, none⟩ = some bv := by rw [Lib.cell_of_heap hb2]; rfl
  have f1 : w2.frozen? ⟨g, 1, none⟩ = false := Lib.frozen_of_heap hb2 1
  obtain ⟨ao, n', cap, rfl⟩ : ∃ ao n' cap, v' = .slice ao n' cap := by
    rcases hown'.2 with ⟨hv, _⟩ | ⟨g, cap, cur, hv, _⟩
    · exact ⟨_, _, _, hv⟩
    · exact ⟨_, _, _, hv⟩
  have HG : Hid (w1.grownBy w2 bv.ownBlock) := hgrow
  have HO2 : Hid (w2.ownsRow base 5 1 (.slice ao n' cap) (s.text.length + t.size) (Lib.byteCells s.text ++ Lib.strCells t)) := hown'
  have HB2 : Hid (w2.heap[g]? = some (.cells #[.pointer (some ⟨g, 0, none⟩), bv, .int .i64 s.room, .int .i64 s.depth, .int .i64 s.groups, nv] 52 (0, 0))) := hb2
  clear hgrow hown' hb2 hown
  go_wp2
  go_ret2
  have hnn : w2.ownsRow base 9 1 nv s.names.length (s.names.map Value.string) := HN.out.kept HG.out (by
    rcases HN.out.2 with ⟨rfl, h0⟩ | ⟨gn, cn, cur, rfl, hgn, hgg, _⟩
    · exact .inl rfl
    · right
      intro e
      have := own_off HO.out hgg (Ne.symm neBS)
      exact this (e.symm ▸ rfl))
  refine ⟨rfl, ⟨hbg, .pointer (some ⟨g, 0, none⟩), .slice ao n' cap, nv, ?_, .inr rfl, ?_, own_set hnn (own_off hnn HB2.out neWS)⟩, ?_⟩
  · have := HB2.out
    simp [World.setCell, Array.getElem?_modify, this, Wr.add]
  · have e1 : (s.add t).text.length = s.text.length + t.size := by simp [Wr.add]
    have e2 : Lib.byteCells (s.add t).text = Lib.byteCells s.text ++ Lib.strCells t := by rw [strCells_bytes]; simp [Wr.add, Lib.byteCells]
    rw [e1, e2]
    exact own_set HO2.out (own_off HO2.out HB2.out neWB)
  · refine K1.out.trans ⟨(Below.grown (Below.refl _ w1) HG.out hs1 (fun k e => (HO.out.lt k e).1)).setCell (p := ⟨g, 1, none⟩) hbg _, fun k cs t fr hk n1 n2 n3 => ?_⟩
    have hkl := (Array.getElem?_eq_some_iff.1 hk).1
    have hkg : k ≠ g := by
      rintro rfl
      rw [HBK.out] at hk
      simp only [Option.some.injEq, Obj.cells.injEq] at hk
      exact n1 hk.2.1.symm
    refine (Below.heap_setCell _ _ _ _ hkg).trans ((HG.out.block k hkl (fun e => ?_)).trans hk)
    exact own_off HO.out hk n2 e.symm

/-- Less room. -/
def Wr.less (s : Wr) (n : Int) : Wr := { s with room := s.room - n }
def Wr.deep (s : Wr) (n : Int) : Wr := { s with depth := s.depth + n }
/-- A piece of the pattern. -/
def putP (s : Wr) (t : ByteArray) : Wr × Bool := if t.size = 0 then (s, false) else if 0 ≤ s.room - t.size then ((s.less t.size).add t, true) else (s.less t.size, false)
def enterP (s : Wr) (t : ByteArray) : Wr × Bool := if s.depth + 1 ≤ 50 then putP (s.deep 1) t else (s.deep 1, false)
def leaveP (s : Wr) (t : ByteArray) : Wr × Bool := putP (s.deep (-1)) t
/-- What holds while a writer still may be one. -/
structure Good (s : Wr) : Prop where
  r0 : 0 ≤ s.room
  r1 : s.text.length + s.room ≤ 2000
  d0 : 0 ≤ s.depth
  d1 : s.depth ≤ 50
  g0 : 0 ≤ s.groups
  g1 : s.groups ≤ 20
  n1 : s.names.length ≤ 20

theorem take_any (base g : Nat) (s : Wr) (n : Int) (w : World) (h : WrAt w base g s) (h0 : 0 ≤ s.room) (h1 : s.room ≤ 2000) (h2 : 0 ≤ n) (h3 : n ≤ 9223372036854775807) :
    Calls Tryz.prog 55 #[.pointer (some ⟨g, 0, none⟩), .int .i64 n] w fun e w' => e = .returned (.bool (decide (0 ≤ s.room - n))) ∧ WrAt w' base g (s.less n) ∧ Kt base w w' := by
  have H := h.set (s.less n) 0 (.int .i64 (s.room - n)) rfl rfl (by simp [Wr.less]) (by omega)
  obtain ⟨hb, p, bv, nv, hbk, _⟩ := h
  have c2 : w.cell? ⟨g, 2, none⟩ = some (.int .i64 s.room) := by rw [Lib.cell_of_heap hbk]; rfl
  have f2 : w.frozen? ⟨g, 2, none⟩ = false := Lib.frozen_of_heap hbk 2
  have HH : Hid _ := H
  clear H hbk
  generalize s.room = r at *
  go_enter Tryz.func55, Tryz.ntmps55
  go_wp2
  go_ret
  exact ⟨ret_bool (by rw [decide_eq_decide]; omega), HH.out.1, HH.out.2⟩

set_option maxRecDepth 10000 in
theorem put_any (base g : Nat) (s : Wr) (t : ByteArray) (w : World) (h : WrAt w base g s) (h0 : 0 ≤ s.room) (h1 : s.text.length + s.room ≤ 2000) (ht : t.size ≤ 9223372036854775807) :
    Calls Tryz.prog 40 #[.pointer (some ⟨g, 0, none⟩), .string t] w fun e w' => e = .returned (.bool (putP s t).2) ∧ WrAt w' base g (putP s t).1 ∧ Kt base w w' := by
  by_cases z : t.size = 0
  · have e1 : t.toList.isEmpty = true := lin.isEmpty_of z
    have HE : Hid (putP s t = (s, false)) := by unfold Hid putP; rw [if_pos z]
    have HW : Hid (WrAt w base g s) := h
    rw [HE.out]
    clear h z HE
    go_enter Tryz.func40, Tryz.ntmps40
    go_wp2
    go_ret
    exact ⟨rfl, HW.out, Kt.refl _ _⟩
  have e1 : t.toList.isEmpty = false := lin.isEmpty_not z
  have C := take_any base g s t.size w h h0 (by omega) (by omega) (by omega)
  by_cases c : 0 ≤ s.room - t.size
  · have HE : Hid (putP s t = ((s.less t.size).add t, true)) := by unfold Hid putP; rw [if_neg z, if_pos c]
    rw [HE.out]
    rw [decide_eq_true c] at C
    have CW : Hid (∀ W, WrAt W base g (s.less t.size) → Calls Tryz.prog 56 #[.pointer (some ⟨g, 0, none⟩), .string t] W fun e w' => e = .returned (.tuple #[.int .i64 t.size, .nilIface]) ∧ WrAt w' base g ((s.less t.size).add t) ∧ Kt base W w') := fun W hW => write_any base g (s.less t.size) t W hW (by simp [Wr.less]; omega)
    clear h z HE
    go_enter Tryz.func40, Tryz.ntmps40
    go_wp2_with (first
      | (go_at_call 55; refine C.mono ?_; rintro e w1 ⟨rfl, d1, d2⟩; have W1 : Hid (WrAt w1 base g _) := d1; have K1 : Hid (Kt base w w1) := d2; clear d1 d2)
      | (go_at_call 56; refine (CW.out _ W1.out).mono ?_; rintro e w2 ⟨rfl, d1, d2⟩; have W2 : Hid (WrAt w2 base g _) := d1; have K2 : Hid (Kt base w1 w2) := d2; clear d1 d2))
    go_ret
    exact ⟨rfl, W2.out, K1.out.trans K2.out⟩
  · have HE : Hid (putP s t = (s.less t.size, false)) := by unfold Hid putP; rw [if_neg z, if_neg c]
    rw [HE.out]
    rw [decide_eq_false c] at C
    clear h z HE
    go_enter Tryz.func40, Tryz.ntmps40
    go_wp2_with (go_at_call 55; refine C.mono ?_; rintro e w1 ⟨rfl, d1, d2⟩; have W1 : Hid (WrAt w1 base g _) := d1; have K1 : Hid (Kt base w w1) := d2; clear d1 d2)
    go_ret
    exact ⟨rfl, W1.out, K1.out⟩

theorem enter_any (base g : Nat) (s : Wr) (t : ByteArray) (w : World) (h : WrAt w base g s) (hg : Good s) (ht : t.size ≤ 9223372036854775807) :
    Calls Tryz.prog 64 #[.pointer (some ⟨g, 0, none⟩), .string t] w fun e w' => e = .returned (.bool (enterP s t).2) ∧ WrAt w' base g (enterP s t).1 ∧ Kt base w w' := by
  have H := h.set (s.deep 1) 1 (.int .i64 (s.depth + 1)) rfl rfl (by simp [Wr.deep]) (by omega)
  obtain ⟨q1, q2, q3, q4, _, _, _⟩ := hg
  obtain ⟨hb, p, bv, nv, hbk, _⟩ := h
  have c2 : w.cell? ⟨g, 3, none⟩ = some (.int .i64 s.depth) := by rw [Lib.cell_of_heap hbk]; rfl
  have f2 : w.frozen? ⟨g, 3, none⟩ = false := Lib.frozen_of_heap hbk 3
  have c3 : (w.setCell ⟨g, 3, none⟩ (.int .i64 (s.depth + 1))).cell? ⟨g, 3, none⟩ = some (.int .i64 (s.depth + 1)) := nod.cell_set c2
  have HH : Hid (WrAt (w.setCell ⟨g, 3, none⟩ (.int .i64 (s.depth + 1))) base g (s.deep 1) ∧ Kt base w (w.setCell ⟨g, 3, none⟩ (.int .i64 (s.depth + 1)))) := H
  have C := put_any base g (s.deep 1) t _ HH.out.1 q1 q2 ht
  by_cases c : s.depth + 1 ≤ 50
  · have HE : Hid (enterP s t = putP (s.deep 1) t) := by unfold Hid enterP; rw [if_pos c]
    rw [HE.out]
    obtain ⟨r, hr⟩ : ∃ r, putP (s.deep 1) t = r := ⟨_, rfl⟩
    rw [hr] at C ⊢
    obtain ⟨r1, r2⟩ := r
    simp only at C
    have fd : decide (s.depth + 1 ≤ 50) = true := decide_eq_true c
    clear H hbk HE hr
    generalize s.depth = r at *
    go_enter Tryz.func64, Tryz.ntmps64
    go_wp2_with (go_at_call 40; refine C.mono ?_; rintro e w1 ⟨rfl, d1, d2⟩; have W1 : Hid (WrAt w1 base g _) := d1; have K1 : Hid (Kt base _ w1) := d2; clear d1 d2)
    go_ret
    exact ⟨rfl, W1.out, HH.out.2.trans K1.out⟩
  · have HE : Hid (enterP s t = (s.deep 1, false)) := by unfold Hid enterP; rw [if_neg c]
    rw [HE.out]
    have fd : decide (s.depth + 1 ≤ 50) = false := decide_eq_false c
    clear H hbk HE C
    generalize s.depth = r at *
    go_enter Tryz.func64, Tryz.ntmps64
    go_wp2
    go_ret
    exact ⟨rfl, HH.out.1, HH.out.2⟩
theorem leave_any (base g : Nat) (s : Wr) (t : ByteArray) (w : World) (h : WrAt w base g s) (hg : Good s) (ht : t.size ≤ 9223372036854775807) :
    Calls Tryz.prog 66 #[.pointer (some ⟨g, 0, none⟩), .string t] w fun e w' => e = .returned (.bool (leaveP s t).2) ∧ WrAt w' base g (leaveP s t).1 ∧ Kt base w w' := by
  have H := h.set (s.deep (-1)) 1 (.int .i64 (s.depth - 1)) rfl rfl (by simp [Wr.deep]; omega) (by omega)
  obtain ⟨q1, q2, q3, q4, _, _, _⟩ := hg
  obtain ⟨hb, p, bv, nv, hbk, _⟩ := h
  have c2 : w.cell? ⟨g, 3, none⟩ = some (.int .i64 s.depth) := by rw [Lib.cell_of_heap hbk]; rfl
  have f2 : w.frozen? ⟨g, 3, none⟩ = false := Lib.frozen_of_heap hbk 3
  have HH : Hid (WrAt (w.setCell ⟨g, 3, none⟩ (.int .i64 (s.depth - 1))) base g (s.deep (-1)) ∧ Kt base w (w.setCell ⟨g, 3, none⟩ (.int .i64 (s.depth - 1)))) := H
  have C := put_any base g (s.deep (-1)) t _ HH.out.1 q1 q2 ht
  have HE : Hid (leaveP s t = putP (s.deep (-1)) t) := rfl
  rw [HE.out]
  obtain ⟨r, hr⟩ : ∃ r, putP (s.deep (-1)) t = r := ⟨_, rfl⟩
  rw [hr] at C ⊢
  obtain ⟨r1, r2⟩ := r
  simp only at C
  clear H hbk HE hr
  generalize s.depth = r at *
  go_enter Tryz.func66, Tryz.ntmps66
  go_wp2_with (go_at_call 40; refine C.mono ?_; rintro e w1 ⟨rfl, d1, d2⟩; have W1 : Hid (WrAt w1 base g _) := d1; have K1 : Hid (Kt base _ w1) := d2; clear d1 d2)
  go_ret
  exact ⟨rfl, W1.out, HH.out.2.trans K1.out⟩
end Go.Proofs.YtbdediacfckpcaaGreatDoor.tre
end

section
/- Groups and Depth of package tree. -/
set_option linter.unusedVariables false
set_option linter.unusedSimpArgs false
namespace Go.Proofs.YtbdediacfckpcaaGreatDoor.tre
open Go.RowKit nod
open Go.Proofs.YtbdediacfckpcaaGreatDoor.rng (R RV ret_int ret_bool below_drewN info_parts own_below')

theorem len_szL : ∀ ks : List Nd, ks.length ≤ szL ks
  | [] => by simp [szL]
  | t :: ts => by
    have := len_szL ts
    have : 1 ≤ t.sz := by obtain ⟨k, m, a, b, g, n, s, ks⟩ := t; rw [Nd.sz]; omega
    rw [szL, List.length_cons]; omega
mutual
/-- Groups with a number. -/
def grpN : Nd → Int
  | .mk k _ a _ _ _ _ ks => (if k = 9 ∧ 0 < a then 1 else 0) + grpL ks
def grpL : List Nd → Int
  | [] => 0
  | t :: ts => grpN t + grpL ts
end
/-- Has it a left and a right side. -/
def sided (k m : Int) : Bool := k == 3 && (m == 1 || m == 2 || m == 3)
def brack (k : Int) : Bool := k == 9 || k == 10 || k == 11 || k == 3
mutual
def depN : Nd → Int
  | .mk k m _ _ _ _ _ ks => depL (sided k m) ks + (if brack k then 1 else 0)
/-- The deepest of kids; a class that is a side has no brackets. -/
def depL : Bool → List Nd → Int
  | _, [] => 0
  | q, t :: ts => max (depN t - (if t.kind == 3 && q then 1 else 0)) (depL q ts)
end
theorem grpL_snoc : ∀ (l : List Nd) (t : Nd), grpL (l ++ [t]) = grpL l + grpN t
  | [], t => by simp [grpL]
  | x :: l, t => by rw [List.cons_append, grpL, grpL, grpL_snoc l t]; omega
theorem depL_nonneg (q : Bool) : ∀ l : List Nd, 0 ≤ depL q l
  | [] => by rw [depL]; omega
  | t :: ts => by rw [depL]; have := depL_nonneg q ts; omega
theorem depL_snoc (q : Bool) : ∀ (l : List Nd) (t : Nd), depL q (l ++ [t]) = max (depL q l) (depN t - (if t.kind == 3 && q then 1 else 0))
  | [], t => by
    simp only [List.nil_append, depL]
    exact Int.max_comm _ _
  | x :: l, t => by rw [List.cons_append, depL, depL, depL_snoc q l t]; omega
theorem grp_bounds : ∀ (N : Nat) (t : Nd), t.sz ≤ N → 0 ≤ grpN t ∧ grpN t ≤ t.sz := by
  intro N
  induction N with
  | zero => intro t h; obtain ⟨k, m, a, b, g, n, s, ks⟩ := t; rw [Nd.sz] at h; omega
  | succ N ih =>
    intro t h
    obtain ⟨k, m, a, b, g, n, s, ks⟩ := t
    rw [Nd.sz] at h ⊢
    rw [grpN]
    have key : ∀ l : List Nd, (∀ x ∈ l, x.sz ≤ N) → 0 ≤ grpL l ∧ grpL l ≤ szL l := by
      intro l
      induction l with
      | nil => intro _; rw [grpL, szL]; omega
      | cons x l ih2 =>
        intro hl
        rw [grpL, szL]
        have h1 := ih x (hl x (by simp))
        have h2 := ih2 (fun y hy => hl y (by simp [hy]))
        omega
    have := key ks (fun x hx => by have := szL_mem hx; omega)
    split <;> omega
theorem dep_bounds : ∀ (N : Nat) (t : Nd), t.sz ≤ N → 0 ≤ depN t ∧ depN t ≤ t.sz ∧ (brack t.kind = true → 1 ≤ depN t) := by
  intro N
  induction N with
  | zero => intro t h; obtain ⟨k, m, a, b, g, n, s, ks⟩ := t; rw [Nd.sz] at h; omega
  | succ N ih =>
    intro t h
    obtain ⟨k, m, a, b, g, n, s, ks⟩ := t
    rw [Nd.sz] at h ⊢
    rw [depN]
    have key : ∀ l : List Nd, (∀ x ∈ l, x.sz ≤ N) → depL (sided k m) l ≤ szL l := by
      intro l
      induction l with
      | nil => intro _; rw [depL, szL]; omega
      | cons x l ih2 =>
        intro hl
        rw [depL, szL]
        have h1 := ih x (hl x (by simp))
        have h2 := ih2 (fun y hy => hl y (by simp [hy]))
        split <;> omega
    have h1 := key ks (fun x hx => by have := szL_mem hx; omega)
    have h2 := depL_nonneg (sided k m) ks
    refine ⟨by split <;> omega, by split <;> omega, fun hb => ?_⟩
    have hb' : brack k = true := hb
    rw [if_pos hb']
    omega

/-- A row of texts as it is read. -/
def TV (w : World) (ao : Option Addr) (l : List ByteArray) : Prop := ∃ b off, ao = some ⟨b, off, none⟩ ∧ ∀ i t, l[i]? = some t → w.cell? ⟨b, off + i, none⟩ = some (.string t)
def textP (mode : Int) (l : List ByteArray) : ByteArray := if mode < 0 then ByteArray.empty else (l[mode.toNat]?).getD ByteArray.empty
theorem text_any (mode : Int) (ao : Option Addr) (cap : Nat) (l : List ByteArray) (w : World) (hv : TV w ao l) (hl : l.length ≤ 1000) :
    Calls Tryz.prog 37 #[.int .i64 mode, .slice ao l.length cap] w fun e w' => e = .returned (.string (textP mode l)) ∧ w' = w := by
  by_cases c1 : mode < 0
  · have HE : Hid (textP mode l = ByteArray.empty) := by unfold Hid textP; rw [if_pos c1]
    have f1 : decide (mode < 0) = true := decide_eq_true c1
    generalize l.length = n at *
    clear hv c1
    go_enter Tryz.func37, Tryz.ntmps37
    go_wp2
    go_ret
    exact ⟨by rw [HE.out]; rfl, rfl⟩
  have f1 : decide (mode < 0) = false := decide_eq_false c1
  obtain ⟨M, rfl⟩ : ∃ M : Nat, mode = M := ⟨mode.toNat, by omega⟩
  obtain ⟨n, hn⟩ : ∃ n, l.length = n := ⟨_, rfl⟩
  by_cases c2 : n ≤ M
  · have HE : Hid (textP M l = ByteArray.empty) := by
      unfold Hid textP; rw [if_neg c1, Int.toNat_natCast, List.getElem?_eq_none (by omega)]; rfl
    have f2 : decide ((n : Int) ≤ (M : Int)) = true := decide_eq_true (by omega)
    rw [hn]
    clear hv c1 hn
    go_enter Tryz.func37, Tryz.ntmps37
    go_wp2
    go_ret
    exact ⟨by rw [HE.out]; rfl, rfl⟩
  · have f2 : decide ((n : Int) ≤ (M : Int)) = false := decide_eq_false (by omega)
    obtain ⟨t, ht⟩ := getX hn (show M < n by omega)
    obtain ⟨b, off, rfl, hx⟩ := hv
    have c0 := hx M t ht
    have HE : Hid (textP M l = t) := by
      unfold Hid textP; rw [if_neg c1, Int.toNat_natCast, ht]; rfl
    have hlt : M < n := by omega
    rw [hn] at hl ⊢
    clear hx c1 hn ht c2
    go_enter Tryz.func37, Tryz.ntmps37
    go_wp2
    go_ret
    exact ⟨by rw [HE.out]; rfl, rfl⟩
def opTexts : List ByteArray := [ByteArray.empty, ⟨#[38, 38]⟩, ⟨#[45, 45]⟩, ⟨#[126, 126]⟩]
theorem operator_any (mode : Int) (w : World) : Calls Tryz.prog 31 #[.int .i64 mode] w fun e w' => e = .returned (.string (textP mode opTexts)) ∧ Below w.heap.size w w' := by
  have HB : Hid (Below w.heap.size w (w.alloc (.cells #[.string ByteArray.empty, .string ⟨#[38, 38]⟩, .string ⟨#[45, 45]⟩, .string ⟨#[126, 126]⟩] 9))) := (Below.refl _ w).alloc (Nat.le_refl _) _
  have b := Bk.new w #[.string ByteArray.empty, .string ⟨#[38, 38]⟩, .string ⟨#[45, 45]⟩, .string ⟨#[126, 126]⟩] 9
  have C := text_any mode (some ⟨w.heap.size, 0, none⟩) 4 opTexts _ ⟨_, _, rfl, fun i t hi => by
    match i, hi with
    | 0, hi => simp [opTexts] at hi; subst hi; exact b.cell 0 rfl
    | 1, hi => simp [opTexts] at hi; subst hi; exact b.cell 1 rfl
    | 2, hi => simp [opTexts] at hi; subst hi; exact b.cell 2 rfl
    | 3, hi => simp [opTexts] at hi; subst hi; exact b.cell 3 rfl
    | k + 4, hi => simp [opTexts] at hi⟩ (by decide)
  have e4 : opTexts.length = 4 := rfl
  rw [e4] at C
  generalize textP mode opTexts = T at *
  clear b e4
  go_enter Tryz.func31, Tryz.ntmps31
  go_wp2_with (go_at_call 37; refine C.mono ?_; rintro e w1 ⟨rfl, rfl⟩)
  go_ret
  exact ⟨rfl, HB.out⟩
theorem sided_eq (m : Int) : (!(textP m opTexts).toList.isEmpty) = sided 3 m := by
  unfold sided textP
  by_cases c : m < 0
  · rw [if_pos c]
    have : (m == 1 || m == 2 || m == 3) = false := by simp; omega
    rw [this]; decide +kernel
  · rw [if_neg c]
    obtain ⟨M, rfl⟩ : ∃ M : Nat, m = M := ⟨m.toNat, by omega⟩
    rw [Int.toNat_natCast]
    match M with
    | 0 => decide +kernel
    | 1 => decide +kernel
    | 2 => decide +kernel
    | 3 => decide +kernel
    | k + 4 =>
      have : (((k + 4 : Nat) : Int) == 1 || ((k + 4 : Nat) : Int) == 2 || ((k + 4 : Nat) : Int) == 3) = false := by simp; omega
      rw [this, List.getElem?_eq_none (by simp [opTexts])]; decide +kernel
theorem sides_any (k m a b : Int) (g : Bool) (n : ByteArray) (sv kv : Value) (w : World) :
    Calls Tryz.prog 21 #[.agg #[.int .i64 k, .int .i64 m, .int .i64 a, .int .i64 b, .bool g, .string n, sv, kv]] w fun e w' => e = .returned (.bool (sided k m)) ∧ Below w.heap.size w w' := by
  have HB : Hid (Below w.heap.size w (w.alloc (.cells #[.int .i64 k, .int .i64 m, .int .i64 a, .int .i64 b, .bool g, .string n, sv, kv] 25))) := (Below.refl _ w).alloc (Nat.le_refl _) _
  by_cases c : k = 3
  · subst c
    have C := operator_any m (w.alloc (.cells #[.int .i64 3, .int .i64 m, .int .i64 a, .int .i64 b, .bool g, .string n, sv, kv] 25))
    have HE : Hid ((!(textP m opTexts).toList.isEmpty) = sided 3 m) := sided_eq m
    rw [← HE.out]
    generalize textP m opTexts = T at *
    clear HE
    go_enter Tryz.func21, Tryz.ntmps21
    go_wp2_with (go_at_call 31; refine C.mono ?_; rintro e w1 ⟨rfl, d⟩; have HF : Hid (Below w.heap.size w w1) := HB.out.trans (below_less d (by simp)); clear d)
    go_ret
    exact ⟨ret_bool (by simp), HF.out⟩
  · have HE : Hid (sided k m = false) := by unfold Hid sided; rw [show (k == 3) = false by simpa using c]; rfl
    have f1 : (k == 3) = false := by simpa using c
    clear c
    go_enter Tryz.func21, Tryz.ntmps21
    go_wp2
    go_ret
    exact ⟨by rw [HE.out]; rfl, HB.out⟩
theorem szL_take (ks : List Nd) : ∀ j, szL (ks.take j) ≤ szL ks := by
  induction ks with
  | nil => intro j; simp [szL]
  | cons t ts ih =>
    intro j
    cases j with
    | zero => simp [szL]
    | succ j => rw [List.take_succ_cons, szL, szL]; have := ih j; omega
theorem grpL_bounds (l : List Nd) : 0 ≤ grpL l ∧ grpL l ≤ szL l := by
  induction l with
  | nil => rw [grpL, szL]; omega
  | cons x l ih => rw [grpL, szL]; have := grp_bounds _ x (Nat.le_refl _); omega
theorem depL_bound (q : Bool) (l : List Nd) : depL q l ≤ szL l := by
  induction l with
  | nil => rw [depL, szL]; omega
  | cons x l ih => rw [depL, szL]; have := dep_bounds _ x (Nat.le_refl _); split <;> omega
set_option maxRecDepth 10000 in
set_option maxHeartbeats 4000000 in
theorem groups_other (k : Int) (m a b : Int) (g : Bool) (n : ByteArray) (ks : List Nd) (sa : Option Addr) (sl sc : Nat) (ao : Option Addr) (nk cap : Nat) (w : World) (HL : Hid (ks.length = nk)) (hk3 : nk ≤ 1000000000) (hs : szL ks ≤ 100000000) (hcap : nk ≤ cap) (HK : Hid (KV w.heap.size w ao ks)) (HI : Hid (∀ (t : Nd) (v : Value) (W : World), t ∈ ks → NV W.heap.size W t v → Calls Tryz.prog 15 #[v] W fun e w' => e = .returned (.int .i64 (grpN t)) ∧ Below W.heap.size W w')) (f1 : (k == 9) = false) :
    Calls Tryz.prog 15 #[.agg #[.int .i64 k, .int .i64 m, .int .i64 a, .int .i64 b, .bool g, .string n, .slice sa sl sc, .slice ao nk cap]] w fun e w' => e = .returned (.int .i64 (0 + grpL ks)) ∧ Below w.heap.size w w' := by
  have HB : Hid (Below w.heap.size w (w.alloc (.cells #[.int .i64 k, .int .i64 m, .int .i64 a, .int .i64 b, .bool g, .string n, .slice sa sl sc, .slice ao nk cap] 25))) := (Below.refl _ w).alloc (Nat.le_refl _) _
  go_enter Tryz.func15, Tryz.ntmps15
  go_wp2
  go_loopw [3, 17] (fun c i wr => ∃ (j : Nat) (x : Int), j ≤ nk ∧ i = .int .i64 j ∧ c = .int .i64 x ∧ Hid (x = 0 + grpL (ks.take j)) ∧ 0 ≤ x ∧ x ≤ 100000001 ∧ Hid (Below w.heap.size w wr)) (fun _ i _ => nk - (intOf i).toNat)
  case atStart => exact ⟨0, 0, Nat.zero_le _, rfl, rfl, by unfold Hid; simp [grpL], by omega, by omega, HB⟩
  case round =>
    obtain ⟨j, x, hj, rfl, rfl, HE, x1, x2, HW⟩ := hrel
    clear HB
    by_cases hlt : j < nk
    · obtain ⟨t, ht⟩ := getX HL.out hlt
      obtain ⟨bb, off, rfl, hka⟩ := (HK.out.below HW.out).some (by have := HL.out; omega)
      obtain ⟨k', m', a', b', g', n', s', kk, sa', sc', ao', cap', rfl, ⟨e0, e1, e2, e3, e4, e5, e6, e7⟩, hv'⟩ := hka.kid ht
      have hmem := List.mem_of_getElem? ht
      generalize s'.length = sl' at *
      generalize kk.length = nk' at *
      have W1 : Below w.heap.size wr (wr.alloc (.cells #[.int .i64 k', .int .i64 m', .int .i64 a', .int .i64 b', .bool g', .string n', .slice sa' sl' sc', .slice ao' nk' cap'] 25)) := (Below.refl _ wr).alloc HW.out.size _
      have C := HI.out _ _ (wr.alloc (.cells #[.int .i64 k', .int .i64 m', .int .i64 a', .int .i64 b', .bool g', .string n', .slice sa' sl' sc', .slice ao' nk' cap'] 25)) hmem ((hv'.keep W1).wide (by have := HW.out.size; simp; omega))
      have HC : Hid (Below w.heap.size w (wr.alloc (.cells #[.int .i64 k', .int .i64 m', .int .i64 a', .int .i64 b', .bool g', .string n', .slice sa' sl' sc', .slice ao' nk' cap'] 25))) := HW.out.trans W1
      have hgb := grp_bounds _ (.mk k' m' a' b' g' n' s' kk) (Nat.le_refl _)
      obtain ⟨r, hr⟩ : ∃ r, grpN (.mk k' m' a' b' g' n' s' kk) = r := ⟨_, rfl⟩
      have HN : Hid (x + r = 0 + grpL (ks.take (j + 1))) := by unfold Hid; rw [takeX ht, grpL_snoc, hr, HE.out]; omega
      have hb2 : 0 ≤ x + r ∧ x + r ≤ 100000001 := by
        have := grpL_bounds (ks.take (j + 1)); have := szL_take ks (j + 1); rw [HN.out]; omega
      rw [hr] at C
      obtain ⟨b1, b2⟩ := hb2
      clear HE HK HW hka hv' hmem W1 HI hr ht hgb
      go_wp2_with (go_at_call 15; refine C.mono ?_; rintro e w2 ⟨rfl, d⟩; have HG : Hid (Below w.heap.size w w2) := HC.out.trans (below_less d (by have := HC.out.size; omega)); clear d)
      go_roundw
      case rel => exact ⟨j + 1, x + r, by omega, by go_num, rfl, HN, b1, b2, HG⟩
      case measure => simp [intOf]; omega
    · have HX : Hid (x = 0 + grpL ks) := by
        unfold Hid; rw [HE.out, List.take_of_length_le (by have := HL.out; omega)]
      clear HK HI
      go_wp2
      go_ret
      exact ⟨by rw [← HX.out]; rfl, HW.out⟩
set_option maxRecDepth 10000 in
set_option maxHeartbeats 4000000 in
theorem groups_none (m a b : Int) (g : Bool) (n : ByteArray) (ks : List Nd) (sa : Option Addr) (sl sc : Nat) (ao : Option Addr) (nk cap : Nat) (w : World) (HL : Hid (ks.length = nk)) (hk3 : nk ≤ 1000000000) (hs : szL ks ≤ 100000000) (hcap : nk ≤ cap) (HK : Hid (KV w.heap.size w ao ks)) (HI : Hid (∀ (t : Nd) (v : Value) (W : World), t ∈ ks → NV W.heap.size W t v → Calls Tryz.prog 15 #[v] W fun e w' => e = .returned (.int .i64 (grpN t)) ∧ Below W.heap.size W w')) (f2 : decide (0 < a) = false) :
    Calls Tryz.prog 15 #[.agg #[.int .i64 9, .int .i64 m, .int .i64 a, .int .i64 b, .bool g, .string n, .slice sa sl sc, .slice ao nk cap]] w fun e w' => e = .returned (.int .i64 (0 + grpL ks)) ∧ Below w.heap.size w w' := by
  have HB : Hid (Below w.heap.size w (w.alloc (.cells #[.int .i64 9, .int .i64 m, .int .i64 a, .int .i64 b, .bool g, .string n, .slice sa sl sc, .slice ao nk cap] 25))) := (Below.refl _ w).alloc (Nat.le_refl _) _
  go_enter Tryz.func15, Tryz.ntmps15
  go_wp2
  go_loopw [3, 17] (fun c i wr => ∃ (j : Nat) (x : Int), j ≤ nk ∧ i = .int .i64 j ∧ c = .int .i64 x ∧ Hid (x = 0 + grpL (ks.take j)) ∧ 0 ≤ x ∧ x ≤ 100000001 ∧ Hid (Below w.heap.size w wr)) (fun _ i _ => nk - (intOf i).toNat)
  case atStart => exact ⟨0, 0, Nat.zero_le _, rfl, rfl, by unfold Hid; simp [grpL], by omega, by omega, HB⟩
  case round =>
    obtain ⟨j, x, hj, rfl, rfl, HE, x1, x2, HW⟩ := hrel
    clear HB
    by_cases hlt : j < nk
    · obtain ⟨t, ht⟩ := getX HL.out hlt
      obtain ⟨bb, off, rfl, hka⟩ := (HK.out.below HW.out).some (by have := HL.out; omega)
      obtain ⟨k', m', a', b', g', n', s', kk, sa', sc', ao', cap', rfl, ⟨e0, e1, e2, e3, e4, e5, e6, e7⟩, hv'⟩ := hka.kid ht
      have hmem := List.mem_of_getElem? ht
      generalize s'.length = sl' at *
      generalize kk.length = nk' at *
      have W1 : Below w.heap.size wr (wr.alloc (.cells #[.int .i64 k', .int .i64 m', .int .i64 a', .int .i64 b', .bool g', .string n', .slice sa' sl' sc', .slice ao' nk' cap'] 25)) := (Below.refl _ wr).alloc HW.out.size _
      have C := HI.out _ _ (wr.alloc (.cells #[.int .i64 k', .int .i64 m', .int .i64 a', .int .i64 b', .bool g', .string n', .slice sa' sl' sc', .slice ao' nk' cap'] 25)) hmem ((hv'.keep W1).wide (by have := HW.out.size; simp; omega))
      have HC : Hid (Below w.heap.size w (wr.alloc (.cells #[.int .i64 k', .int .i64 m', .int .i64 a', .int .i64 b', .bool g', .string n', .slice sa' sl' sc', .slice ao' nk' cap'] 25))) := HW.out.trans W1
      have hgb := grp_bounds _ (.mk k' m' a' b' g' n' s' kk) (Nat.le_refl _)
      obtain ⟨r, hr⟩ : ∃ r, grpN (.mk k' m' a' b' g' n' s' kk) = r := ⟨_, rfl⟩
      have HN : Hid (x + r = 0 + grpL (ks.take (j + 1))) := by unfold Hid; rw [takeX ht, grpL_snoc, hr, HE.out]; omega
      have hb2 : 0 ≤ x + r ∧ x + r ≤ 100000001 := by
        have := grpL_bounds (ks.take (j + 1)); have := szL_take ks (j + 1); rw [HN.out]; omega
      rw [hr] at C
      obtain ⟨b1, b2⟩ := hb2
      clear HE HK HW hka hv' hmem W1 HI hr ht hgb
      go_wp2_with (go_at_call 15; refine C.mono ?_; rintro e w2 ⟨rfl, d⟩; have HG : Hid (Below w.heap.size w w2) := HC.out.trans (below_less d (by have := HC.out.size; omega)); clear d)
      go_roundw
      case rel => exact ⟨j + 1, x + r, by omega, by go_num, rfl, HN, b1, b2, HG⟩
      case measure => simp [intOf]; omega
    · have HX : Hid (x = 0 + grpL ks) := by
        unfold Hid; rw [HE.out, List.take_of_length_le (by have := HL.out; omega)]
      clear HK HI
      go_wp2
      go_ret
      exact ⟨by rw [← HX.out]; rfl, HW.out⟩
set_option maxRecDepth 10000 in
set_option maxHeartbeats 4000000 in
theorem groups_one (m a b : Int) (g : Bool) (n : ByteArray) (ks : List Nd) (sa : Option Addr) (sl sc : Nat) (ao : Option Addr) (nk cap : Nat) (w : World) (HL : Hid (ks.length = nk)) (hk3 : nk ≤ 1000000000) (hs : szL ks ≤ 100000000) (hcap : nk ≤ cap) (HK : Hid (KV w.heap.size w ao ks)) (HI : Hid (∀ (t : Nd) (v : Value) (W : World), t ∈ ks → NV W.heap.size W t v → Calls Tryz.prog 15 #[v] W fun e w' => e = .returned (.int .i64 (grpN t)) ∧ Below W.heap.size W w')) (f2 : decide (0 < a) = true) :
    Calls Tryz.prog 15 #[.agg #[.int .i64 9, .int .i64 m, .int .i64 a, .int .i64 b, .bool g, .string n, .slice sa sl sc, .slice ao nk cap]] w fun e w' => e = .returned (.int .i64 (1 + grpL ks)) ∧ Below w.heap.size w w' := by
  have HB : Hid (Below w.heap.size w (w.alloc (.cells #[.int .i64 9, .int .i64 m, .int .i64 a, .int .i64 b, .bool g, .string n, .slice sa sl sc, .slice ao nk cap] 25))) := (Below.refl _ w).alloc (Nat.le_refl _) _
  go_enter Tryz.func15, Tryz.ntmps15
  go_wp2
  go_loopw [3, 17] (fun c i wr => ∃ (j : Nat) (x : Int), j ≤ nk ∧ i = .int .i64 j ∧ c = .int .i64 x ∧ Hid (x = 1 + grpL (ks.take j)) ∧ 0 ≤ x ∧ x ≤ 100000001 ∧ Hid (Below w.heap.size w wr)) (fun _ i _ => nk - (intOf i).toNat)
  case atStart => exact ⟨0, 1, Nat.zero_le _, rfl, rfl, by unfold Hid; simp [grpL], by omega, by omega, HB⟩
  case round =>
    obtain ⟨j, x, hj, rfl, rfl, HE, x1, x2, HW⟩ := hrel
    clear HB
    by_cases hlt : j < nk
    · obtain ⟨t, ht⟩ := getX HL.out hlt
      obtain ⟨bb, off, rfl, hka⟩ := (HK.out.below HW.out).some (by have := HL.out; omega)
      obtain ⟨k', m', a', b', g', n', s', kk, sa', sc', ao', cap', rfl, ⟨e0, e1, e2, e3, e4, e5, e6, e7⟩, hv'⟩ := hka.kid ht
      have hmem := List.mem_of_getElem? ht
      generalize s'.length = sl' at *
      generalize kk.length = nk' at *
      have W1 : Below w.heap.size wr (wr.alloc (.cells #[.int .i64 k', .int .i64 m', .int .i64 a', .int .i64 b', .bool g', .string n', .slice sa' sl' sc', .slice ao' nk' cap'] 25)) := (Below.refl _ wr).alloc HW.out.size _
      have C := HI.out _ _ (wr.alloc (.cells #[.int .i64 k', .int .i64 m', .int .i64 a', .int .i64 b', .bool g', .string n', .slice sa' sl' sc', .slice ao' nk' cap'] 25)) hmem ((hv'.keep W1).wide (by have := HW.out.size; simp; omega))
      have HC : Hid (Below w.heap.size w (wr.alloc (.cells #[.int .i64 k', .int .i64 m', .int .i64 a', .int .i64 b', .bool g', .string n', .slice sa' sl' sc', .slice ao' nk' cap'] 25))) := HW.out.trans W1
      have hgb := grp_bounds _ (.mk k' m' a' b' g' n' s' kk) (Nat.le_refl _)
      obtain ⟨r, hr⟩ : ∃ r, grpN (.mk k' m' a' b' g' n' s' kk) = r := ⟨_, rfl⟩
      have HN : Hid (x + r = 1 + grpL (ks.take (j + 1))) := by unfold Hid; rw [takeX ht, grpL_snoc, hr, HE.out]; omega
      have hb2 : 0 ≤ x + r ∧ x + r ≤ 100000001 := by
        have := grpL_bounds (ks.take (j + 1)); have := szL_take ks (j + 1); rw [HN.out]; omega
      rw [hr] at C
      obtain ⟨b1, b2⟩ := hb2
      clear HE HK HW hka hv' hmem W1 HI hr ht hgb
      go_wp2_with (go_at_call 15; refine C.mono ?_; rintro e w2 ⟨rfl, d⟩; have HG : Hid (Below w.heap.size w w2) := HC.out.trans (below_less d (by have := HC.out.size; omega)); clear d)
      go_roundw
      case rel => exact ⟨j + 1, x + r, by omega, by go_num, rfl, HN, b1, b2, HG⟩
      case measure => simp [intOf]; omega
    · have HX : Hid (x = 1 + grpL ks) := by
        unfold Hid; rw [HE.out, List.take_of_length_le (by have := HL.out; omega)]
      clear HK HI
      go_wp2
      go_ret
      exact ⟨by rw [← HX.out]; rfl, HW.out⟩
theorem groups_any : ∀ (N : Nat) (t : Nd) (v : Value) (w : World), t.sz ≤ N → t.sz ≤ 100000000 → NV w.heap.size w t v → Calls Tryz.prog 15 #[v] w fun e w' => e = .returned (.int .i64 (grpN t)) ∧ Below w.heap.size w w' := by
  intro N
  induction N with
  | zero => intro t v w h; obtain ⟨k, m, a, b, g, n, st, ks⟩ := t; rw [Nd.sz] at h; omega
  | succ N ih =>
    intro t v w hN hN2 hv
    obtain ⟨k, m, a, b, g, n, st, ks, sa, sc, ao, cap, rfl, rfl, _, _, _, hk1, hk2, _, hkv⟩ := hv.open
    rw [Nd.sz] at hN hN2
    have hl := len_szL ks
    have HI : Hid (∀ (t : Nd) (v : Value) (W : World), t ∈ ks → NV W.heap.size W t v → Calls Tryz.prog 15 #[v] W fun e w' => e = .returned (.int .i64 (grpN t)) ∧ Below W.heap.size W w') := fun t v W hm hv => by
      have := szL_mem hm
      exact ih t v W (by omega) (by omega) hv
    obtain ⟨nk, hnk⟩ : ∃ nk, ks.length = nk := ⟨_, rfl⟩
    rw [hnk]
    rw [hnk] at hk1 hl
    rw [grpN]
    by_cases c1 : k = 9
    · subst c1
      by_cases c2 : 0 < a
      · rw [if_pos ⟨rfl, c2⟩]
        exact groups_one m a b g n ks sa _ sc ao nk cap w hnk (by omega) (by omega) hk1 hkv HI (decide_eq_true c2)
      · rw [if_neg (fun h => c2 h.2)]
        exact groups_none m a b g n ks sa _ sc ao nk cap w hnk (by omega) (by omega) hk1 hkv HI (decide_eq_false c2)
    · rw [if_neg (fun h => c1 h.1)]
      exact groups_other k m a b g n ks sa _ sc ao nk cap w hnk (by omega) (by omega) hk1 hkv HI (by simpa using c1)
end Go.Proofs.YtbdediacfckpcaaGreatDoor.tre
end
