/- Texts that the proof leans on, one behind the other. -/
import Derived.Test.YtjbcapnpknbbaaaGreatCmpMade
import Derived.Laws.Append
import Derived.Deep.RegionHeld3
import Derived.Deep.RegionWith
import Derived.Deep.LoopGhost
import Derived.Deep.CutBlock

section
/- A row of elements of no size that grows. -/
set_option linter.unusedVariables false
set_option linter.unusedSimpArgs false
namespace Go.Proofs.YtjbcapnpknbbaaaGreat.cmp
open Go.RowKit nod
open Go.Proofs.YtjbcapnpknbbaaaGreat.rng (R RV info_parts)

/-- A row of n elements that take no room. -/
def UZ (v : Value) (n : Nat) : Prop := (v = .slice none 0 0 ∧ n = 0) ∨ ∃ g cap, v = .slice (some g) n cap
theorem infU : (Tryz.prog.info? 83).map (fun i => (i.zero, i.size, i.bytes)) = some (some (.agg #[]), 0, 0) := by kernel_rfl
theorem run_app0 {P : Program} (w : World) (t ty e : TypeId) (i : TypeInfo) (z : Value) (ht : P.underlying t = some (.slice e)) (hi : P.info? e = some i) (hz : i.zero = some z) (hsize : i.size = 0) (hby : i.bytes = 0) (v : Value) (n : Nat) (hv : UZ v n) (a : Addr) (c : Nat) (h63 : n + 1 ≤ 1000000) :
    ∃ v' w', (Builtin.append_ #[t, t] ty #[v, .slice (some a) 1 c]).run P w = .ok v' w' ∧ UZ v' (n + 1) ∧ Below w.heap.size w w' := by
  have bel : ∀ cs, Below w.heap.size w (w.drew.alloc (.cells cs e)) := fun cs => (Below.refl _ w).drew.alloc (Nat.le_refl _) _
  rcases hv with ⟨rfl, rfl⟩ | ⟨g, cap, rfl⟩
  · exact ⟨_, _, run_append_nil (P := P) w t ty e i z ht hi hz a 1 c [] (by simp [hsize]) (by simp) (by omega) (by omega) (by omega), .inr ⟨_, _, rfl⟩, bel _⟩
  · by_cases hroom : n + 1 ≤ cap
    · refine ⟨.slice (some g) (n + 1) cap, w, ?_, .inr ⟨_, _, rfl⟩, Below.refl _ _⟩
      simp [Builtin.append_, run_underlying ht, sizeOf, typeInfo, hi, hsize, Builtin.lenOf, hroom, Builtin.firstCells, loadCells, loadCellsFrom, storeCells]
    · exact ⟨_, _, run_append_grow (P := P) w t ty e i z ht hi hz g n cap [] (by simp [hsize]) (by simp) a 1 c [] (by simp [hsize]) (by simp) (by omega) (by omega) (by rw [hby]; simp), .inr ⟨_, _, rfl⟩, bel _⟩
theorem wpList_app0 {P : Program} {w : World} {ops : Array Oper} {rest : List Oper} {o : Oper} {a : Act} {Q : Exit → Act → World → Prop} (hgd : o.guard = none) (s x : Operand) (t : TypeId)
    (ho : o.op = .call { callee := .builtin .append, args := #[s, x], argTypes := #[t, t] }) (e : TypeId) (i : TypeInfo) (z : Value) (ht : P.underlying t = some (.slice e)) (hi : P.info? e = some i) (hz : i.zero = some z) (hsize : i.size = 0) (hby : i.bytes = 0)
    (v : Value) (n : Nat) (hs : a.eval s = v) (hv : UZ v n) (ad : Addr) (c : Nat) (hx : a.eval x = .slice (some ad) 1 c) (h63 : n + 1 ≤ 1000000)
    (h : ∀ v' w', UZ v' (n + 1) → Below w.heap.size w w' → wpList P ops Q rest (a.put o.dst v') w') : wpList P ops Q (o :: rest) a w := by
  refine wpList_plain hgd fun K hK => ?_
  obtain ⟨v', w', hr, h2, h3⟩ := run_app0 (P := P) w t o.type e i z ht hi hz hsize hby v n hv ad c h63
  unfold Oper.wp execOp
  simp only [ho, resolve, invoke, builtin, Sem.run_bind, Sem.run_pure, Result.andThen_ok, List.map_toArray, List.map_cons, List.map_nil, hs, hx, hr]
  exact hK _ _ (h v' w' h2 h3)
end Go.Proofs.YtjbcapnpknbbaaaGreat.cmp
end

section
/- What a tree says of groups: meet. -/
set_option linter.unusedVariables false
set_option linter.unusedSimpArgs false
namespace Go.Proofs.YtjbcapnpknbbaaaGreat.cmp
open Go.RowKit nod
open Go.Proofs.YtjbcapnpknbbaaaGreat.wid (ofN)
open Go.Proofs.YtjbcapnpknbbaaaGreat.low (standP kidsP)
open Go.Proofs.YtjbcapnpknbbaaaGreat.rng (R RV info_parts)

open Go.Proofs.YtjbcapnpknbbaaaGreat.low (plN plL plL_all len_szL setsN setsL)
/-- What a tree says of groups. -/
structure Gr where
  most : Int
  back : Int
  twice : Bool
  there : List Bool
  names : List ByteArray
def gcells (G : Gr) : List Value := .int .i64 G.most :: .int .i64 G.back :: .bool G.twice :: (G.there.map Value.bool ++ G.names.map Value.string)
structure GB (w : World) (gb : Nat) (G : Gr) : Prop where
  bk : Bk w gb (gcells G).toArray 51
  l1 : G.there.length = 21
  l2 : G.names.length = 21
theorem GB.cell {w : World} {gb : Nat} {G : Gr} (h : GB w gb G) (i : Nat) {u : Value} (hi : (gcells G)[i]? = some u) : w.cell? ⟨gb, i, none⟩ = some u := h.bk.cell i (by simpa using hi)
theorem GB.there {w : World} {gb : Nat} {G : Gr} (h : GB w gb G) {a : Nat} {t : Bool} (ha : G.there[a]? = some t) : w.cell? ⟨gb, 3 + a, none⟩ = some (.bool t) := by
  refine h.cell (3 + a) ?_
  have hl := (List.getElem?_eq_some_iff.1 ha).1
  rw [show 3 + a = a + 1 + 1 + 1 by omega, gcells, List.getElem?_cons_succ, List.getElem?_cons_succ, List.getElem?_cons_succ, List.getElem?_append_left (by simpa using hl), List.getElem?_map, ha]; rfl
theorem GB.name {w : World} {gb : Nat} {G : Gr} (h : GB w gb G) {a : Nat} {t : ByteArray} (ha : G.names[a]? = some t) : w.cell? ⟨gb, 24 + a, none⟩ = some (.string t) := by
  refine h.cell (24 + a) ?_
  rw [show 24 + a = (21 + a) + 1 + 1 + 1 by omega, gcells, List.getElem?_cons_succ, List.getElem?_cons_succ, List.getElem?_cons_succ, List.getElem?_append_right (by simp [h.l1]), List.length_map, h.l1, show 21 + a - 21 = a by omega, List.getElem?_map, ha]; rfl
theorem gb_set {w : World} {gb : Nat} {G G' : Gr} (h : GB w gb G) (i : Nat) (u : Value) (e : (gcells G).set i u = gcells G') (l1 : G'.there.length = 21) (l2 : G'.names.length = 21) : GB (w.setCell ⟨gb, i, none⟩ u) gb G' := by
  refine ⟨?_, l1, l2⟩
  have := h.bk.set i u
  rw [List.setIfInBounds_toArray, e] at this
  exact this
theorem GB.setBack {w : World} {gb : Nat} {G : Gr} (h : GB w gb G) (b : Int) : GB (w.setCell ⟨gb, 1, none⟩ (.int .i64 b)) gb ⟨G.most, b, G.twice, G.there, G.names⟩ := gb_set h 1 _ rfl h.l1 h.l2
theorem GB.setMost {w : World} {gb : Nat} {G : Gr} (h : GB w gb G) (b : Int) : GB (w.setCell ⟨gb, 0, none⟩ (.int .i64 b)) gb ⟨b, G.back, G.twice, G.there, G.names⟩ := gb_set h 0 _ rfl h.l1 h.l2
theorem GB.setTwice {w : World} {gb : Nat} {G : Gr} (h : GB w gb G) (b : Bool) : GB (w.setCell ⟨gb, 2, none⟩ (.bool b)) gb ⟨G.most, G.back, b, G.there, G.names⟩ := gb_set h 2 _ rfl h.l1 h.l2
theorem GB.setThere {w : World} {gb : Nat} {G : Gr} (h : GB w gb G) (a : Nat) (ha : a < 21) (b : Bool) : GB (w.setCell ⟨gb, 3 + a, none⟩ (.bool b)) gb ⟨G.most, G.back, G.twice, G.there.set a b, G.names⟩ := by
  refine gb_set h (3 + a) _ ?_ (by simp [h.l1]) h.l2
  rw [show 3 + a = a + 1 + 1 + 1 by omega, gcells, List.set_cons_succ, List.set_cons_succ, List.set_cons_succ, List.set_append_left _ _ (by simp [h.l1]; omega), ← List.map_set]; rfl
theorem GB.setName {w : World} {gb : Nat} {G : Gr} (h : GB w gb G) (a : Nat) (ha : a < 21) (b : ByteArray) : GB (w.setCell ⟨gb, 24 + a, none⟩ (.string b)) gb ⟨G.most, G.back, G.twice, G.there, G.names.set a b⟩ := by
  refine gb_set h (24 + a) _ ?_ h.l1 (by simp [h.l2])
  rw [show 24 + a = (21 + a) + 1 + 1 + 1 by omega, gcells, List.set_cons_succ, List.set_cons_succ, List.set_cons_succ, List.set_append_right _ _ (by simp [h.l1]), List.length_map, h.l1, show 21 + a - 21 = a by omega, ← List.map_set]; rfl
def meetG (G : Gr) (k a : Int) (n : ByteArray) : Gr :=
  if k = 13 then ⟨G.most, max G.back a, G.twice, G.there, G.names⟩ else if k = 9 ∧ 0 < a then ⟨max G.most a, G.back, G.twice || G.there.getD a.toNat false, G.there.set a.toNat true, G.names.set a.toNat n⟩ else G
theorem GB.kp {E : Option Nat} {w w' : World} {gb : Nat} {G : Gr} (h : GB w gb G) (k : Kp E w w') (hE : some gb ≠ E) : GB w' gb G := ⟨h.bk.kp k hE, h.l1, h.l2⟩
theorem GB.past {w : World} {gb : Nat} {G : Gr} (h : GB w gb G) (o : Obj) : GB (w.alloc o) gb G := ⟨h.bk.past o, h.l1, h.l2⟩
theorem GB.on {w w' : World} {gb : Nat} {G : Gr} (h : GB w gb G) (hb : Below w.heap.size w w') : GB w' gb G := ⟨h.bk.on hb, h.l1, h.l2⟩
set_option maxRecDepth 10000 in
set_option maxHeartbeats 16000000 in
theorem meet_13 (gb : Nat) (G : Gr) (m a b : Int) (g : Bool) (s : ByteArray) (sa : Option Addr) (sl sc : Nat) (ao : Option Addr) (nk cap : Nat) (w : World) (h : GB w gb G) :
    Calls Tryz.prog 41 #[.pointer (some ⟨gb, 0, none⟩), .agg #[.int .i64 13, .int .i64 m, .int .i64 a, .int .i64 b, .bool g, .string s, .slice sa sl sc, .slice ao nk cap]] w fun e w' => e = .returned (.tuple #[]) ∧ GB w' gb (meetG G 13 a s) ∧ Kp (some gb) w w' := by
  have h1 := h.past (.cells #[.int .i64 13, .int .i64 m, .int .i64 a, .int .i64 b, .bool g, .string s, .slice sa sl sc, .slice ao nk cap] 25)
  obtain ⟨X, hX⟩ : ∃ X, max G.back a = X := ⟨_, rfl⟩
  have HM : Hid (meetG G 13 a s = ⟨G.most, X, G.twice, G.there, G.names⟩) := by unfold Hid meetG; rw [if_pos rfl, hX]
  rw [HM.out]
  have hX2 : (if G.back < a then a else G.back) = X := by rw [← hX]; omega
  have hX3 : (if a < G.back then G.back else a) = X := by rw [← hX]; omega
  have x1 := h1.cell 1 (u := .int .i64 G.back) rfl
  have f1 := h1.bk.frozen 1
  have HG : Hid (GB ((w.alloc (.cells #[.int .i64 13, .int .i64 m, .int .i64 a, .int .i64 b, .bool g, .string s, .slice sa sl sc, .slice ao nk cap] 25)).setCell ⟨gb, 1, none⟩ (.int .i64 X)) gb ⟨G.most, X, G.twice, G.there, G.names⟩) := h1.setBack X
  have HK : Hid (Kp (some gb) w ((w.alloc (.cells #[.int .i64 13, .int .i64 m, .int .i64 a, .int .i64 b, .bool g, .string s, .slice sa sl sc, .slice ao nk cap] 25)).setCell ⟨gb, 1, none⟩ (.int .i64 X))) := ((Kp.refl (some gb) w).alloc _).setCell (p := ⟨gb, 1, none⟩) (.inr rfl) _
  clear h h1 HM
  generalize G.back = bk at *
  go_enter Tryz.func41, Tryz.ntmps41
  go_upto_region 2 with fail
  go_region
  all_goals (try go_wp2)
  all_goals go_end0
  all_goals exact ⟨rfl, HG.out.on (Below.refl _ _).drew, HK.out.then ((Below.refl _ _).drew)⟩
set_option maxRecDepth 10000 in
set_option maxHeartbeats 16000000 in
theorem meet_9 (gb : Nat) (G : Gr) (m b : Int) (an : Nat) (g : Bool) (s : ByteArray) (sa : Option Addr) (sl sc : Nat) (ao : Option Addr) (nk cap : Nat) (w : World) (h : GB w gb G) (ha : 0 < an ∧ an ≤ 20) :
    Calls Tryz.prog 41 #[.pointer (some ⟨gb, 0, none⟩), .agg #[.int .i64 9, .int .i64 m, .int .i64 (an : Int), .int .i64 b, .bool g, .string s, .slice sa sl sc, .slice ao nk cap]] w fun e w' => e = .returned (.tuple #[]) ∧ GB w' gb (meetG G 9 (an : Int) s) ∧ Kp (some gb) w w' := by
  have h1 := h.past (.cells #[.int .i64 9, .int .i64 m, .int .i64 (an : Int), .int .i64 b, .bool g, .string s, .slice sa sl sc, .slice ao nk cap] 25)
  have hgb := h.bk.lt
  obtain ⟨X, hX⟩ : ∃ X, max G.most (an : Int) = X := ⟨_, rfl⟩
  obtain ⟨t, ht⟩ : ∃ t, G.there[an]? = some t := ⟨_, List.getElem?_eq_getElem (by rw [h.l1]; omega)⟩
  obtain ⟨nm, hnm⟩ : ∃ nm, G.names[an]? = some nm := ⟨_, List.getElem?_eq_getElem (by rw [h.l2]; omega)⟩
  obtain ⟨Y, hY⟩ : ∃ Y, (G.twice || t) = Y := ⟨_, rfl⟩
  have HM : Hid (meetG G 9 (an : Int) s = ⟨X, G.back, Y, G.there.set an true, G.names.set an s⟩) := by
    unfold Hid meetG; rw [if_neg (by decide), if_pos ⟨rfl, by omega⟩, hX, Int.toNat_natCast, List.getD_eq_getElem?_getD, ht]; simp [hY]
  rw [HM.out]
  have hX2 : (if G.most < (an : Int) then (an : Int) else G.most) = X := by rw [← hX]; omega
  have hX3 : (if (an : Int) < G.most then G.most else (an : Int)) = X := by rw [← hX]; omega
  have x0 := h1.cell 0 (u := .int .i64 G.most) rfl
  have x2 := h1.cell 2 (u := .bool G.twice) rfl
  have f2 := h1.bk.frozen 2
  have x3 := h1.there ht
  have HG1 : Hid (GB (w.alloc (.cells #[.int .i64 9, .int .i64 m, .int .i64 (an : Int), .int .i64 b, .bool g, .string s, .slice sa sl sc, .slice ao nk cap] 25)) gb G) := h1
  have HB1 : Hid (Bk (w.alloc (.cells #[.int .i64 9, .int .i64 m, .int .i64 (an : Int), .int .i64 b, .bool g, .string s, .slice sa sl sc, .slice ao nk cap] 25)) w.heap.size #[.int .i64 9, .int .i64 m, .int .i64 (an : Int), .int .i64 b, .bool g, .string s, .slice sa sl sc, .slice ao nk cap] 25) := Bk.new w _ _
  have HK1 : Hid (Kp (some gb) w (w.alloc (.cells #[.int .i64 9, .int .i64 m, .int .i64 (an : Int), .int .i64 b, .bool g, .string s, .slice sa sl sc, .slice ao nk cap] 25))) := (Kp.refl (some gb) w).alloc _
  have HT : Hid (G.there[an]? = some t ∧ G.names[an]? = some nm) := ⟨ht, hnm⟩
  have HY : Hid ((G.twice || t) = Y) := hY
  obtain ⟨ha1, ha2⟩ := ha
  have hnb : w.heap.size ≠ gb := by omega
  clear h h1 HM ht hnm hY
  obtain ⟨mo, bk, tw, th, na⟩ := G
  simp only at *
  go_enter Tryz.func41, Tryz.ntmps41
  go_upto_region 4 with fail
  obtain ⟨w1, hw1⟩ : ∃ w1, w.alloc (.cells #[.int .i64 9, .int .i64 m, .int .i64 (an : Int), .int .i64 b, .bool g, .string s, .slice sa sl sc, .slice ao nk cap] 25) = w1 := ⟨_, rfl⟩
  rw [hw1] at x0 x2 f2 x3 HG1 HB1 HK1
  rw [hw1]
  clear hw1
  have n2 := HB1.out.cell 2 (u := .int .i64 (an : Int)) rfl
  have n5 := HB1.out.cell 5 (u := .string s) rfl
  have HG2 : Hid (GB (w1.setCell ⟨gb, 2, none⟩ (.bool Y)) gb ⟨mo, bk, Y, th, na⟩) := HG1.out.setTwice Y
  have HB2 : Hid (Bk (w1.setCell ⟨gb, 2, none⟩ (.bool Y)) w.heap.size #[.int .i64 9, .int .i64 m, .int .i64 (an : Int), .int .i64 b, .bool g, .string s, .slice sa sl sc, .slice ao nk cap] 25) := HB1.out.apart hnb _
  have HK2 : Hid (Kp (some gb) w (w1.setCell ⟨gb, 2, none⟩ (.bool Y))) := HK1.out.setCell (p := ⟨gb, 2, none⟩) (.inr rfl) _
  go_cut [32] from 27 to 66 (fun _ wx => Hid (GB wx gb ⟨mo, bk, Y, th, na⟩) ∧ Hid (Bk wx w.heap.size #[.int .i64 9, .int .i64 m, .int .i64 (an : Int), .int .i64 b, .bool g, .string s, .slice sa sl sc, .slice ao nk cap] 25) ∧ Hid (Kp (some gb) w wx))
  case first =>
    cases tw
    · have hyt : t = Y := by have := HY.out; simpa using this
      go_region
      all_goals (try go_wp2)
      all_goals go_meet
      all_goals (case rel => exact ⟨HG2.out.on (Below.refl _ _).drew, HB2.out.on (Below.refl _ _).drew, HK2.out.then ((Below.refl _ _).drew)⟩)
    · have hyt : Y = true := by have := HY.out; simpa using this.symm
      subst hyt
      go_region
      all_goals (try go_wp2)
      all_goals go_meet
      all_goals (case rel => exact ⟨HG2.out.on (Below.refl _ _).drew, HB2.out.on (Below.refl _ _).drew, HK2.out.then ((Below.refl _ _).drew)⟩)
  case rest =>
    obtain ⟨HG, HB, HK⟩ := hcut
    clear HG2 HB2 HK2 x0 x2 f2 x3 n2 n5 HG1 HB1 HK1 HY
    have n2 := HB.out.cell 2 (u := .int .i64 (an : Int)) rfl
    have n5 := HB.out.cell 5 (u := .string s) rfl
    have x3 := HG.out.there HT.out.1
    have x4 := HG.out.name HT.out.2
    have f3 := HG.out.bk.frozen (3 + an)
    have f4 := HG.out.bk.frozen (24 + an)
    have HA : Hid (GB ((wc.setCell ⟨gb, 3 + an, none⟩ (.bool true)).setCell ⟨gb, 24 + an, none⟩ (.string s)) gb ⟨mo, bk, Y, th.set an true, na.set an s⟩) := (HG.out.setThere an (by omega) true).setName an (by omega) s
    have HA2 : Hid (GB ((wc.setCell ⟨gb, 24 + an, none⟩ (.string s)).setCell ⟨gb, 3 + an, none⟩ (.bool true)) gb ⟨mo, bk, Y, th.set an true, na.set an s⟩) := (HG.out.setName an (by omega) s).setThere an (by omega) true
    have HBa : Hid (∀ i u j v, Bk ((wc.setCell ⟨gb, i, none⟩ u).setCell ⟨gb, j, none⟩ v) w.heap.size #[.int .i64 9, .int .i64 m, .int .i64 (an : Int), .int .i64 b, .bool g, .string s, .slice sa sl sc, .slice ao nk cap] 25) := fun i u j v => (HB.out.apart hnb _).apart hnb _
    have HKa : Hid (∀ i u j v, Kp (some gb) w ((wc.setCell ⟨gb, i, none⟩ u).setCell ⟨gb, j, none⟩ v)) := fun i u j v => (HK.out.setCell (p := ⟨gb, i, none⟩) (.inr rfl) _).setCell (p := ⟨gb, j, none⟩) (.inr rfl) _
    go_wp2_with fail
    go_cut [43] from 27 to 66 (fun _ wx => Hid (GB wx gb ⟨mo, bk, Y, th.set an true, na.set an s⟩) ∧ Hid (Bk wx w.heap.size #[.int .i64 9, .int .i64 m, .int .i64 (an : Int), .int .i64 b, .bool g, .string s, .slice sa sl sc, .slice ao nk cap] 25) ∧ Hid (Kp (some gb) w wx))
    case first =>
      go_region
      all_goals (try go_wp2)
      all_goals go_meet
      all_goals (case rel => first | exact ⟨HA.out.on (Below.refl _ _).drew, (HBa.out _ _ _ _).on (Below.refl _ _).drew, (HKa.out _ _ _ _).then ((Below.refl _ _).drew)⟩ | exact ⟨HA2.out.on (Below.refl _ _).drew, (HBa.out _ _ _ _).on (Below.refl _ _).drew, (HKa.out _ _ _ _).then ((Below.refl _ _).drew)⟩)
    case rest =>
      obtain ⟨HG3, HB3, HK3⟩ := hcut
      clear HA HA2 HBa HKa HG HB HK n2 n5 x3 x4 f3 f4
      have n2 := HB3.out.cell 2 (u := .int .i64 (an : Int)) rfl
      have x0 := HG3.out.cell 0 (u := .int .i64 mo) rfl
      have f0 := HG3.out.bk.frozen 0
      have HG4 := HG3.out.setMost X
      have HF : Hid (GB _ gb ⟨X, bk, Y, th.set an true, na.set an s⟩) := HG4
      have HKF := HK3.out.setCell (p := ⟨gb, 0, none⟩) (.inr rfl) (.int .i64 X)
      have HKG : Hid (Kp (some gb) w _) := HKF
      clear HG4 HKF HG3 HB3 HK3
      go_wp2_with fail
      go_region
      all_goals (try go_wp2)
      all_goals go_end0
      all_goals exact ⟨rfl, HF.out.on (Below.refl _ _).drew, HKG.out.then ((Below.refl _ _).drew)⟩
end Go.Proofs.YtjbcapnpknbbaaaGreat.cmp
end

section
/- meet at any node, the closures of groupsOf. -/
set_option linter.unusedVariables false
set_option linter.unusedSimpArgs false
namespace Go.Proofs.YtjbcapnpknbbaaaGreat.cmp
open Go.RowKit nod
open Go.Proofs.YtjbcapnpknbbaaaGreat.wid (ofN)
open Go.Proofs.YtjbcapnpknbbaaaGreat.low (standP kidsP)
open Go.Proofs.YtjbcapnpknbbaaaGreat.rng (R RV info_parts)

open Go.Proofs.YtjbcapnpknbbaaaGreat.low (plN plL plL_all len_szL setsN setsL)
theorem infU0 : (Tryz.prog.info? 83).map (·.size) = some 0 := by kernel_rfl
set_option maxRecDepth 10000 in
set_option maxHeartbeats 16000000 in
theorem meet_other (gb : Nat) (G : Gr) (k m a b : Int) (g : Bool) (s : ByteArray) (sa : Option Addr) (sl sc : Nat) (ao : Option Addr) (nk cap : Nat) (w : World) (h1 : ¬ k = 13) (h2 : ¬ (k = 9 ∧ 0 < a)) :
    Calls Tryz.prog 41 #[.pointer (some ⟨gb, 0, none⟩), .agg #[.int .i64 k, .int .i64 m, .int .i64 a, .int .i64 b, .bool g, .string s, .slice sa sl sc, .slice ao nk cap]] w fun e w' => e = .returned (.tuple #[]) ∧ Below w.heap.size w w' := by
  have b1 : (k == 13) = false := beq_eq_false_iff_ne.2 h1
  have HB : Hid (Below w.heap.size w (w.alloc (.cells #[.int .i64 k, .int .i64 m, .int .i64 a, .int .i64 b, .bool g, .string s, .slice sa sl sc, .slice ao nk cap] 25))) := (Below.refl _ w).alloc (Nat.le_refl _) _
  by_cases h9 : k = 9
  · subst h9
    have ha : ¬ 0 < a := fun h => h2 ⟨rfl, h⟩
    clear h1 h2
    go_enter Tryz.func41, Tryz.ntmps41
    go_wp2
    all_goals go_end0
    all_goals exact ⟨rfl, HB.out⟩
  · have b2 : (k == 9) = false := beq_eq_false_iff_ne.2 h9
    clear h1 h2
    go_enter Tryz.func41, Tryz.ntmps41
    go_wp2
    all_goals go_end0
    all_goals exact ⟨rfl, HB.out⟩
theorem meet_any (gb : Nat) (G : Gr) (k m a b : Int) (g : Bool) (s : ByteArray) (st : List R) (sa : Option Addr) (sl sc : Nat) (ao : Option Addr) (nk cap : Nat) (w : World) (h : GB w gb G) (hst : standP k m a b st nk = true) :
    Calls Tryz.prog 41 #[.pointer (some ⟨gb, 0, none⟩), .agg #[.int .i64 k, .int .i64 m, .int .i64 a, .int .i64 b, .bool g, .string s, .slice sa sl sc, .slice ao nk cap]] w fun e w' => e = .returned (.tuple #[]) ∧ GB w' gb (meetG G k a s) ∧ Kp (some gb) w w' := by
  by_cases h13 : k = 13
  · subst h13; exact meet_13 gb G m a b g s sa sl sc ao nk cap w h
  · by_cases h9 : k = 9 ∧ 0 < a
    · obtain ⟨rfl, h0⟩ := h9
      unfold standP at hst
      rw [if_neg (by decide), if_neg (by decide), if_neg (by decide), if_neg (by decide), if_pos rfl] at hst
      simp only [Bool.and_eq_true, wi_iff] at hst
      obtain ⟨an, rfl⟩ := Int.eq_ofNat_of_zero_le (show 0 ≤ a by omega)
      exact meet_9 gb G m b an g s sa sl sc ao nk cap w h ⟨by omega, by omega⟩
    · have e : meetG G k a s = G := by unfold meetG; rw [if_neg h13, if_neg h9]
      refine (meet_other gb G k m a b g s sa sl sc ao nk cap w h13 h9).mono ?_
      rintro e' w' ⟨rfl, hb⟩
      exact ⟨rfl, by rw [e]; exact h.on hb, Kp.of_below hb⟩
set_option maxRecDepth 10000 in
set_option maxHeartbeats 16000000 in
theorem g1_any (gb : Nat) (G : Gr) (k m a b above : Int) (g : Bool) (s : ByteArray) (st : List R) (sa : Option Addr) (sl sc : Nat) (ao : Option Addr) (nk cap : Nat) (w : World) (h : GB w gb G) (hst : standP k m a b st nk = true) :
    Calls Tryz.prog 40 #[.agg #[.int .i64 k, .int .i64 m, .int .i64 a, .int .i64 b, .bool g, .string s, .slice sa sl sc, .slice ao nk cap], .int .i64 above, .pointer (some ⟨gb, 0, none⟩)] w fun e w' => e = .returned (.bool (kidsP k)) ∧ GB w' gb (meetG G k a s) ∧ Kp (some gb) w w' := by
  have C := meet_any gb G k m a b g s st sa sl sc ao nk cap (w.alloc (.cells #[.int .i64 k, .int .i64 m, .int .i64 a, .int .i64 b, .bool g, .string s, .slice sa sl sc, .slice ao nk cap] 25)) (h.past _) hst
  have CH := hasK_any k
  have hgb := h.bk.lt
  have HX : Hid (Bk (w.alloc (.cells #[.int .i64 k, .int .i64 m, .int .i64 a, .int .i64 b, .bool g, .string s, .slice sa sl sc, .slice ao nk cap] 25)) w.heap.size #[.int .i64 k, .int .i64 m, .int .i64 a, .int .i64 b, .bool g, .string s, .slice sa sl sc, .slice ao nk cap] 25) := Bk.new w _ _
  have HK0 : Hid (Kp (some gb) w (w.alloc (.cells #[.int .i64 k, .int .i64 m, .int .i64 a, .int .i64 b, .bool g, .string s, .slice sa sl sc, .slice ao nk cap] 25))) := (Kp.refl _ w).alloc _
  clear h hst
  go_enter Tryz.func40, Tryz.ntmps40
  go_wp2_with (first
    | (go_at_call 41; refine C.mono ?_; rintro e w2 ⟨rfl, hg, hk⟩; have HG : Hid (GB w2 gb (meetG G k a s) ∧ Kp (some gb) w w2) := ⟨hg, HK0.out.trans hk⟩; have x0 := (HX.out.kp hk (fun e => by cases e; omega)).cell 0 (u := .int .i64 k) rfl; clear hg hk C)
    | (go_at_call 42; refine (CH _).mono ?_; rintro e w3 ⟨rfl, rfl⟩; clear CH))
  go_ret
  exact ⟨rfl, HG.out.1, HG.out.2⟩
set_option maxRecDepth 10000 in
set_option maxHeartbeats 16000000 in
theorem g2_any (v : Value) (k m a b : Int) (g : Bool) (s : ByteArray) (sa : Option Addr) (sl sc : Nat) (ao : Option Addr) (nk cap : Nat) (w : World) :
    Calls Tryz.prog 43 #[.agg #[.int .i64 k, .int .i64 m, .int .i64 a, .int .i64 b, .bool g, .string s, .slice sa sl sc, .slice ao nk cap], v] w fun e w' => e = .returned (.agg #[]) ∧ Below w.heap.size w w' := by
  have HBW : Hid (Below w.heap.size w ((w.alloc (.cells #[.int .i64 k, .int .i64 m, .int .i64 a, .int .i64 b, .bool g, .string s, .slice sa sl sc, .slice ao nk cap] 25)).alloc (.cells #[] 83))) := below2 _ _ _
  have HR : Hid (Bk ((w.alloc (.cells #[.int .i64 k, .int .i64 m, .int .i64 a, .int .i64 b, .bool g, .string s, .slice sa sl sc, .slice ao nk cap] 25)).alloc (.cells #[] 83)) (w.heap.size + 1) #[] 83) := bk2
  go_enter Tryz.func43, Tryz.ntmps43
  go_wp2
  refine bodyPost_ret (results_cell_row Tryz.results43 _ _ (w.heap.size + 1) _ #[] _ _ rfl HR.out Tryz.underlying83 rfl infU0) rfl ?_
  exact ⟨rfl, HBW.out⟩
end Go.Proofs.YtjbcapnpknbbaaaGreat.cmp
end

section
/- walk.from and walk.Up over the groups, groupsOf. -/
set_option linter.unusedVariables false
set_option linter.unusedSimpArgs false
namespace Go.Proofs.YtjbcapnpknbbaaaGreat.cmp
open Go.RowKit nod
open Go.Proofs.YtjbcapnpknbbaaaGreat.wid (ofN)
open Go.Proofs.YtjbcapnpknbbaaaGreat.low (standP kidsP)
open Go.Proofs.YtjbcapnpknbbaaaGreat.rng (R RV info_parts)

open Go.Proofs.YtjbcapnpknbbaaaGreat.low (plN plL plL_all len_szL setsN setsL)
mutual
/-- What a tree says of groups, after what was said. -/
def gN : Nd → Gr → Gr
  | .mk k m a b g n s ks, G => if kidsP k then gL ks (meetG G k a n) else meetG G k a n
def gL : List Nd → Gr → Gr
  | [], G => G
  | t :: ts, G => gL ts (gN t G)
end
theorem gL_snoc : ∀ (l : List Nd) (t : Nd) (G : Gr), gL (l ++ [t]) G = gN t (gL l G)
  | [], t, G => by rw [List.nil_append, gL, gL, gL]
  | x :: l, t, G => by rw [List.cons_append, gL, gL, gL_snoc l t]
set_option maxRecDepth 10000 in
set_option maxHeartbeats 16000000 in
theorem from_g (gb : Nat) : ∀ (N : Nat) (t : Nd) (v : Value) (above d : Int) (G : Gr) (B : Nat) (w : World), t.sz ≤ N → NV B w t v → B ≤ gb → gb < w.heap.size → GB w gb G → plN t d = true → 0 ≤ above → above + N ≤ 1000000000 → N ≤ 900 →
    Calls Tryz.prog 75 #[v, .int .i64 above, .func (.func 40) #[] #[.pointer (some ⟨gb, 0, none⟩)], .func (.func 43) #[] #[]] w fun e w' => e = .returned (.agg #[]) ∧ GB w' gb (gN t G) ∧ Kp (some gb) w w' := by
  intro N
  induction N with
  | zero => intro t v above d G B w h; obtain ⟨k, m, a, b, g, n, st, ks⟩ := t; rw [Nd.sz] at h; omega
  | succ N ih =>
    intro t v above d G B w hN hv hBm hmb hbk hpl ha1 ha2 hN9
    obtain ⟨k, m, a, b, g, s, st, ks, sa, sc, ao, cap, rfl, rfl, _, _, _, hk1, hk2, _, hkv⟩ := hv.open
    rw [Nd.sz] at hN
    clear hv
    obtain ⟨hstd, hkids⟩ := plain_kids hpl
    have hks := len_szL ks
    obtain ⟨nk, hnk⟩ : ∃ nk, ks.length = nk := ⟨_, rfl⟩
    have HLk : Hid (ks.length = nk) := hnk
    rw [hnk] at hk1 hstd hks ⊢
    have HK : Hid (KV B w ao ks) := hkv
    have HI : Hid (kidsP k = true → ∀ (t : Nd) (v : Value) (q : Gr) (W : World), t ∈ ks → NV B W t v → w.heap.size ≤ W.heap.size → GB W gb q → Calls Tryz.prog 75 #[v, .int .i64 (above + 1), .func (.func 40) #[] #[.pointer (some ⟨gb, 0, none⟩)], .func (.func 43) #[] #[]] W fun e w' => e = .returned (.agg #[]) ∧ GB w' gb (gN t q) ∧ Kp (some gb) W w') := fun hg t v q W hm hv hs hb => by
      have := szL_mem hm
      exact ih t v (above + 1) (d + 1) q B W (by omega) hv hBm (by omega) hb (hkids hg t hm) (by omega) (by omega) (by omega)
    generalize st.length = sl at *
    have HBW : Hid (Below w.heap.size w ((w.alloc (.cells #[.int .i64 k, .int .i64 m, .int .i64 a, .int .i64 b, .bool g, .string s, .slice sa sl sc, .slice ao nk cap] 25)).alloc (.cells #[] 83))) := below2 _ _ _
    have HX : Hid (Bk ((w.alloc (.cells #[.int .i64 k, .int .i64 m, .int .i64 a, .int .i64 b, .bool g, .string s, .slice sa sl sc, .slice ao nk cap] 25)).alloc (.cells #[] 83)) w.heap.size #[.int .i64 k, .int .i64 m, .int .i64 a, .int .i64 b, .bool g, .string s, .slice sa sl sc, .slice ao nk cap] 25) := (Bk.new w _ _).past _
    have HR : Hid (Bk ((w.alloc (.cells #[.int .i64 k, .int .i64 m, .int .i64 a, .int .i64 b, .bool g, .string s, .slice sa sl sc, .slice ao nk cap] 25)).alloc (.cells #[] 83)) (w.heap.size + 1) #[] 83) := bk2
    have HM0 : Hid (GB ((w.alloc (.cells #[.int .i64 k, .int .i64 m, .int .i64 a, .int .i64 b, .bool g, .string s, .slice sa sl sc, .slice ao nk cap] 25)).alloc (.cells #[] 83)) gb G) := (hbk.past _).past _
    have hz : (((w.alloc (.cells #[.int .i64 k, .int .i64 m, .int .i64 a, .int .i64 b, .bool g, .string s, .slice sa sl sc, .slice ao nk cap] 25)).alloc (.cells #[] 83))).heap.size = w.heap.size + 1 + 1 := by simp
    have CE := g1_any gb G k m a b above g s st sa sl sc ao nk cap ((w.alloc (.cells #[.int .i64 k, .int .i64 m, .int .i64 a, .int .i64 b, .bool g, .string s, .slice sa sl sc, .slice ao nk cap] 25)).alloc (.cells #[] 83)) HM0.out hstd
    have CJ := fun v => g2_any v k m a b g s sa sl sc ao nk cap
    obtain ⟨w1, hw1⟩ : ∃ w1, ((w.alloc (.cells #[.int .i64 k, .int .i64 m, .int .i64 a, .int .i64 b, .bool g, .string s, .slice sa sl sc, .slice ao nk cap] 25)).alloc (.cells #[] 83)) = w1 := ⟨_, rfl⟩
    have HW1 : Hid (((w.alloc (.cells #[.int .i64 k, .int .i64 m, .int .i64 a, .int .i64 b, .bool g, .string s, .slice sa sl sc, .slice ao nk cap] 25)).alloc (.cells #[] 83)) = w1) := hw1
    rw [hw1] at HBW HX HR HM0 hz CE
    clear hw1 ih hpl hkids hstd hkv hbk
    cases hg : kidsP k with
    | false =>
      rw [hg] at CE
      have HGN : Hid (gN (.mk k m a b g s st ks) G = meetG G k a s) := by unfold Hid; rw [gN, hg]; rfl
      clear HI HK HLk hg
      go_enter Tryz.func75, Tryz.ntmps75
      go_wp2_with (first
        | (go_at_call 40; (try rw [HW1.out]); refine CE.mono ?_; rintro e w2 ⟨rfl, hg2, hk2⟩; have HC2 : Hid (GB w2 gb (meetG G k a s) ∧ Kp (some gb) w1 w2) := ⟨hg2, hk2⟩; have HX2 := HX.out.kp hk2 (fun e => by cases e; omega); have x0 := HX2.cell 0 (u := .int .i64 k) rfl; have x1 := HX2.cell 1 (u := .int .i64 m) rfl; have x2 := HX2.cell 2 (u := .int .i64 a) rfl; have x3 := HX2.cell 3 (u := .int .i64 b) rfl; have x4 := HX2.cell 4 (u := .bool g) rfl; have x5 := HX2.cell 5 (u := .string s) rfl; have x6 := HX2.cell 6 (u := .slice sa sl sc) rfl; have x7 := HX2.cell 7 (u := .slice ao nk cap) rfl; clear hg2 hk2 CE HX2)
        | (go_at_call 43; refine (CJ _ _).mono ?_; rintro e w3 ⟨rfl, b3⟩; have B3 : Hid (Below w2.heap.size w2 w3) := b3; have HR3 : Hid (Bk w3 (w.heap.size + 1) #[] 83) := (HR.out.kp HC2.out.2 (fun e => by cases e; omega)).on b3; clear b3 CJ))
      refine bodyPost_ret (results_cell_row Tryz.results75 _ _ (w.heap.size + 1) _ #[] _ _ rfl HR3.out Tryz.underlying83 rfl infU0) rfl ?_
      exact ⟨rfl, by rw [HGN.out]; exact HC2.out.1.on B3.out, ((Kp.of_below HBW.out).trans HC2.out.2).then (below_less B3.out (by have := HC2.out.2.size; omega))⟩
    | true =>
      rw [hg] at CE
      have HGN : Hid (gN (.mk k m a b g s st ks) G = gL ks (meetG G k a s)) := by unfold Hid; rw [gN, hg]; rfl
      have HII := HI.out hg
      have HI2 : Hid (∀ (t : Nd) (v : Value) (q : Gr) (W : World), t ∈ ks → NV B W t v → w.heap.size ≤ W.heap.size → GB W gb q → Calls Tryz.prog 75 #[v, .int .i64 (above + 1), .func (.func 40) #[] #[.pointer (some ⟨gb, 0, none⟩)], .func (.func 43) #[] #[]] W fun e w' => e = .returned (.agg #[]) ∧ GB w' gb (gN t q) ∧ Kp (some gb) W w') := HII
      clear HI HII hg
      have hk3 : nk ≤ 900 := by omega
      go_enter Tryz.func75, Tryz.ntmps75
      go_wp2_with (go_at_call 40; (try rw [HW1.out]); refine CE.mono ?_; rintro e w2 ⟨rfl, hg2, hk2⟩; have HC2 : Hid (GB w2 gb (meetG G k a s) ∧ Kp (some gb) w1 w2) := ⟨hg2, hk2⟩; have HX2 : Hid (Bk w2 w.heap.size #[.int .i64 k, .int .i64 m, .int .i64 a, .int .i64 b, .bool g, .string s, .slice sa sl sc, .slice ao nk cap] 25) := HX.out.kp hk2 (fun e => by cases e; omega); have q7 := HX2.out.cell 7 (u := .slice ao nk cap) rfl; clear hg2 hk2 CE)
      have hs2 := HC2.out.2.size
      have HR2 : Hid (Bk w2 (w.heap.size + 1) #[] 83) := HR.out.kp HC2.out.2 (fun e => by cases e; omega)
      have HM2 : Hid (GB w2 gb (gL (ks.take 0) (meetG G k a s))) := by unfold Hid; rw [List.take_zero, gL]; exact HC2.out.1
      have HK2 : Hid (Kp (some gb) w w2) := (Kp.of_below HBW.out).trans HC2.out.2
      obtain ⟨i0, hi, hz0, hz1, hz2⟩ := info_parts infU
      go_loopg [9, 19] nk (fun gk vv i wr => ∃ (j : Nat), j + gk = nk ∧ i = .int .i64 j ∧ Hid (UZ vv j) ∧ Hid (Kp (some gb) w wr) ∧ Hid (Bk wr w.heap.size #[.int .i64 k, .int .i64 m, .int .i64 a, .int .i64 b, .bool g, .string s, .slice sa sl sc, .slice ao nk cap] 25) ∧ Hid (Bk wr (w.heap.size + 1) #[] 83) ∧ Hid (GB wr gb (gL (ks.take j) (meetG G k a s))) ∧ w.heap.size + 1 + 1 ≤ wr.heap.size)
      case atStart => exact ⟨0, by omega, rfl, .inl ⟨rfl, rfl⟩, HK2, HX2, HR2, HM2, by omega⟩
      case round =>
        obtain ⟨j, hj, rfl, HUZ, HKr, HXr, HRr, HMr, hsz⟩ := hrel
        clear HK2 HX2 HR2 HM2 q7 HC2
        by_cases hlt : j < nk
        · obtain ⟨t, ht⟩ := getX HLk.out hlt
          have hbelr : Below B w wr := HKr.out.below (by omega) (fun x e => (by cases e; exact hBm))
          obtain ⟨bb, off, rfl, hka⟩ := (HK.out.below hbelr).some (by have := HLk.out; omega)
          obtain ⟨k', m', a', b', g', n', s', kk, sa', sc', ao', cap', rfl, ⟨e0, e1, e2, e3, e4, e5, e6, e7⟩, hv'⟩ := hka.kid ht
          have hmem := List.mem_of_getElem? ht
          have HTK : Hid (ks.take (j + 1) = ks.take j ++ [.mk k' m' a' b' g' n' s' kk]) := takeX ht
          generalize s'.length = sl' at *
          generalize kk.length = nk' at *
          have WW1 : Below wr.heap.size wr (wr.alloc (.cells #[.int .i64 k', .int .i64 m', .int .i64 a', .int .i64 b', .bool g', .string n', .slice sa' sl' sc', .slice ao' nk' cap'] 25)) := (Below.refl _ wr).alloc (Nat.le_refl _) _
          have C := HI2.out _ _ _ (wr.alloc (.cells #[.int .i64 k', .int .i64 m', .int .i64 a', .int .i64 b', .bool g', .string n', .slice sa' sl' sc', .slice ao' nk' cap'] 25)) hmem (hv'.keep (below_less WW1 (by omega))) (by simp; omega) (HMr.out.past _)
          have HKa : Hid (Kp (some gb) w (wr.alloc (.cells #[.int .i64 k', .int .i64 m', .int .i64 a', .int .i64 b', .bool g', .string n', .slice sa' sl' sc', .slice ao' nk' cap'] 25))) := HKr.out.alloc _
          have HXa : Hid (Bk (wr.alloc (.cells #[.int .i64 k', .int .i64 m', .int .i64 a', .int .i64 b', .bool g', .string n', .slice sa' sl' sc', .slice ao' nk' cap'] 25)) w.heap.size #[.int .i64 k, .int .i64 m, .int .i64 a, .int .i64 b, .bool g, .string s, .slice sa sl sc, .slice (some ⟨bb, off, none⟩) nk cap] 25) := HXr.out.past _
          have HRa : Hid (Bk (wr.alloc (.cells #[.int .i64 k', .int .i64 m', .int .i64 a', .int .i64 b', .bool g', .string n', .slice sa' sl' sc', .slice ao' nk' cap'] 25)) (w.heap.size + 1) #[] 83) := HRr.out.past _
          have hza : (wr.alloc (.cells #[.int .i64 k', .int .i64 m', .int .i64 a', .int .i64 b', .bool g', .string n', .slice sa' sl' sc', .slice ao' nk' cap'] 25)).heap.size = wr.heap.size + 1 := by simp
          clear hka hv' ht hmem WW1 HKr HXr HRr HMr HI2 hbelr
          obtain ⟨wa, hwa⟩ : ∃ wa, wr.alloc (.cells #[.int .i64 k', .int .i64 m', .int .i64 a', .int .i64 b', .bool g', .string n', .slice sa' sl' sc', .slice ao' nk' cap'] 25) = wa := ⟨_, rfl⟩
          have HWA : Hid (wr.alloc (.cells #[.int .i64 k', .int .i64 m', .int .i64 a', .int .i64 b', .bool g', .string n', .slice sa' sl' sc', .slice ao' nk' cap'] 25) = wa) := hwa
          rw [hwa] at C HKa HXa HRa hza
          clear hwa
          go_wp2_with (first
            | (go_at_call 75; rw [HWA.out]; refine C.mono ?_; rintro e w3 ⟨rfl, hg3, hk3⟩; have HC3 : Hid (GB w3 gb (gN (.mk k' m' a' b' g' n' s' kk) (gL (ks.take j) (meetG G k a s))) ∧ Kp (some gb) wa w3) := ⟨hg3, hk3⟩; clear hg3 hk3 C)
            | (at_builtin; refine wpList_app0 rfl _ _ 85 rfl 83 i0 (.agg #[]) Tryz.underlying85 hi hz0 hz1 hz2 _ j rfl HUZ.out ⟨w3.heap.size, 0, none⟩ 1 rfl (by omega) ?_))
          intro v' w4 huz KA
          obtain ⟨hb, hk⟩ := HC3.out
          have hs3 := hk.size
          have KB : Below w3.heap.size w3 w4 := ((Below.refl _ w3).alloc (Nat.le_refl _) _).trans (below_less KA (by simp))
          have RU : Hid (UZ v' (j + 1)) := huz
          have RK : Hid (Kp (some gb) w w4) := (HKa.out.trans hk).then (below_less KB (by omega))
          have RX : Hid (Bk w4 w.heap.size #[.int .i64 k, .int .i64 m, .int .i64 a, .int .i64 b, .bool g, .string s, .slice sa sl sc, .slice (some ⟨bb, off, none⟩) nk cap] 25) := (HXa.out.kp hk (fun e => by cases e; omega)).on KB
          have RR : Hid (Bk w4 (w.heap.size + 1) #[] 83) := (HRa.out.kp hk (fun e => by cases e; omega)).on KB
          have RM : Hid (GB w4 gb (gL (ks.take (j + 1)) (meetG G k a s))) := by unfold Hid; rw [HTK.out, gL_snoc]; exact hb.on KB
          have RZ : w.heap.size + 1 + 1 ≤ w4.heap.size := Nat.le_trans (by omega) KB.size
          clear KA KB hb hk HC3 HUZ HTK HKa HXa HRa huz
          go_wp2
          go_roundg (gk - 1)
          case measure => omega
          case rel => exact ⟨j + 1, by omega, by go_num, RU, RK, RX, RR, RM, RZ⟩
        · obtain rfl : j = nk := by omega
          have htk : ks.take j = ks := List.take_of_length_le (by have := HLk.out; omega)
          rw [htk] at HMr
          have x0 := HXr.out.cell 0 (u := .int .i64 k) rfl
          have x1 := HXr.out.cell 1 (u := .int .i64 m) rfl
          have x2 := HXr.out.cell 2 (u := .int .i64 a) rfl
          have x3 := HXr.out.cell 3 (u := .int .i64 b) rfl
          have x4 := HXr.out.cell 4 (u := .bool g) rfl
          have x5 := HXr.out.cell 5 (u := .string s) rfl
          have x6 := HXr.out.cell 6 (u := .slice sa sl sc) rfl
          have x7 := HXr.out.cell 7 (u := .slice ao j cap) rfl
          have hwr := HKr.out.size
          clear htk HK HI2
          go_wp2_with (go_at_call 43; refine (CJ _ _).mono ?_; rintro e w3 ⟨rfl, b3⟩; have B3 : Hid (Below wr.heap.size wr w3) := b3; have HR3 : Hid (Bk w3 (w.heap.size + 1) #[] 83) := HRr.out.on b3; clear b3 CJ)
          refine bodyPost_ret (results_cell_row Tryz.results75 _ _ (w.heap.size + 1) _ #[] _ _ rfl HR3.out Tryz.underlying83 rfl infU0) rfl ?_
          exact ⟨rfl, by rw [HGN.out]; exact HMr.out.on B3.out, HKr.out.then (below_less B3.out (by omega))⟩
set_option maxRecDepth 10000 in
set_option maxHeartbeats 16000000 in
theorem up_g (gb : Nat) (t : Nd) (v : Value) (d : Int) (G : Gr) (B : Nat) (w : World) (hv : NV B w t v) (hBm : B ≤ gb) (hmb : gb < w.heap.size) (hbk : GB w gb G) (hpl : plN t d = true) (hsz : t.sz ≤ 900) :
    Calls Tryz.prog 39 #[v, .func (.func 40) #[] #[.pointer (some ⟨gb, 0, none⟩)], .func (.func 43) #[] #[]] w fun e w' => e = .returned (.agg #[]) ∧ GB w' gb (gN t G) ∧ Kp (some gb) w w' := by
  obtain ⟨k, m, a, b, g, s, st, ks, sa, sc, ao, cap, rfl, rfl, _⟩ := hv.open
  generalize st.length = sl at *
  generalize ks.length = nk at *
  have HBW : Hid (Below w.heap.size w ((w.alloc (.cells #[.int .i64 k, .int .i64 m, .int .i64 a, .int .i64 b, .bool g, .string s, .slice sa sl sc, .slice ao nk cap] 25)).alloc (.cells #[] 83))) := below2 _ _ _
  have HX : Hid (Bk ((w.alloc (.cells #[.int .i64 k, .int .i64 m, .int .i64 a, .int .i64 b, .bool g, .string s, .slice sa sl sc, .slice ao nk cap] 25)).alloc (.cells #[] 83)) w.heap.size #[.int .i64 k, .int .i64 m, .int .i64 a, .int .i64 b, .bool g, .string s, .slice sa sl sc, .slice ao nk cap] 25) := (Bk.new w _ _).past _
  have HR : Hid (Bk ((w.alloc (.cells #[.int .i64 k, .int .i64 m, .int .i64 a, .int .i64 b, .bool g, .string s, .slice sa sl sc, .slice ao nk cap] 25)).alloc (.cells #[] 83)) (w.heap.size + 1) #[] 83) := bk2
  have hz : (((w.alloc (.cells #[.int .i64 k, .int .i64 m, .int .i64 a, .int .i64 b, .bool g, .string s, .slice sa sl sc, .slice ao nk cap] 25)).alloc (.cells #[] 83))).heap.size = w.heap.size + 1 + 1 := by simp
  have C := from_g gb _ _ _ 0 d G B ((w.alloc (.cells #[.int .i64 k, .int .i64 m, .int .i64 a, .int .i64 b, .bool g, .string s, .slice sa sl sc, .slice ao nk cap] 25)).alloc (.cells #[] 83)) (Nat.le_refl _) (hv.keep (below_less HBW.out (by omega))) hBm (by simp; omega) ((hbk.past _).past _) hpl (by omega) (by omega) hsz
  obtain ⟨w1, hw1⟩ : ∃ w1, ((w.alloc (.cells #[.int .i64 k, .int .i64 m, .int .i64 a, .int .i64 b, .bool g, .string s, .slice sa sl sc, .slice ao nk cap] 25)).alloc (.cells #[] 83)) = w1 := ⟨_, rfl⟩
  have HW1 : Hid (((w.alloc (.cells #[.int .i64 k, .int .i64 m, .int .i64 a, .int .i64 b, .bool g, .string s, .slice sa sl sc, .slice ao nk cap] 25)).alloc (.cells #[] 83)) = w1) := hw1
  rw [hw1] at HBW HX HR hz C
  clear hw1 hv hbk hpl
  go_enter Tryz.func39, Tryz.ntmps39
  go_wp2_with (go_at_call 75; rw [HW1.out]; refine C.mono ?_; rintro e w3 ⟨rfl, hg3, hk3⟩; have HC3 : Hid (GB w3 gb (gN (.mk k m a b g s st ks) G) ∧ Kp (some gb) w1 w3) := ⟨hg3, hk3⟩; have HR3 : Hid (Bk w3 (w.heap.size + 1) #[] 83) := HR.out.kp hk3 (fun e => by cases e; omega); clear hg3 hk3 C)
  refine bodyPost_ret (results_cell_row Tryz.results39 _ _ (w.heap.size + 1) _ #[] _ _ rfl HR3.out Tryz.underlying83 rfl infU0) rfl ?_
  exact ⟨rfl, HC3.out.1, (Kp.of_below HBW.out).trans HC3.out.2⟩
end Go.Proofs.YtjbcapnpknbbaaaGreat.cmp
end
