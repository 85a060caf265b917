/- Texts that the proof leans on, one behind the other. -/
import Derived.Test.YtbdojobplhpnbabGreatDoorBdLin3
import Derived.Test.YtbdojobplhpnbabGreatDoorBdLin1
import Derived.WalkSmall
import Derived.Deep.LoopGhost
import Derived.Lib.OthersKept
import Derived.Maps.AppendAt
import Derived.Deep.QuietTactic
import Derived.BigQuiet

section
/- What the statements' SameRecords answers of equal records: true. -/
set_option linter.unusedVariables false
set_option linter.unusedSimpArgs false
namespace Go.Proofs.YtbdojobplhpnbabGreatDoor.lin
open Go.RowKit

theorem RecAt.below {w w' : World} {b off : Nat} {r : RecT} (h : RecAt w b off r) {n : Nat} (hb : Below n w w') (hn : w.heap.size ≤ n) : RecAt w' b off r := by
  obtain ⟨h1, h2, g, o, c, h3, h4⟩ := h
  have k : ∀ (a : Addr) (v : Value), w.cell? a = some v → w'.cell? a = some v := fun a v h => (hb.cell (p := a) (by have := World.block_lt_of_cell? w a h; omega)).trans h
  exact ⟨k _ _ h1, k _ _ h2, g, o, c, k _ _ h3, fun j hj => k _ _ (h4 j hj)⟩

/-- A slice of records rs. -/
def View (w : World) (v : Value) (rs : List RecT) : Prop :=
  ∃ a c, v = .slice a rs.length c ∧ (0 < rs.length → ∃ b o, a = some ⟨b, o, none⟩ ∧ ∀ i r, rs[i]? = some r → RecAt w b (o + i * 3) r)
theorem Recs.seen {w : World} {base : Nat} {v : Value} {rs : List RecT} (h : Recs w base v rs) : View w v rs := by
  obtain ⟨a, c, rfl, hv⟩ := h.view
  refine ⟨a, c, rfl, fun h => ?_⟩
  obtain ⟨g, rfl, _, _, hr⟩ := hv h
  exact ⟨g, 0, rfl, fun i r hi => by rw [Nat.zero_add]; exact hr i r hi⟩
theorem View.below {w w' : World} {v : Value} {rs : List RecT} (h : View w v rs) {n : Nat} (hb : Below n w w') (hn : w.heap.size ≤ n) : View w' v rs := by
  obtain ⟨a, c, rfl, hv⟩ := h
  refine ⟨a, c, rfl, fun h => ?_⟩
  obtain ⟨g, o, rfl, hr⟩ := hv h
  exact ⟨g, o, rfl, fun i r hi => (hr i r hi).below hb hn⟩

end Go.Proofs.YtbdojobplhpnbabGreatDoor.lin
end

section
/- What the document's trim answers of any text. -/
set_option linter.unusedVariables false
set_option linter.unusedSimpArgs false
namespace Go.Proofs.YtbdojobplhpnbabGreatDoor.lin
open Go.RowKit

theorem blank_iff (x : UInt8) : blank x = ((x.toNat : Int) == 32 || (x.toNat : Int) == 9) := by
  by_cases h1 : x = 32
  · subst h1; rfl
  · by_cases h2 : x = 9
    · subst h2; rfl
    · have e1 : ((x.toNat : Int) == 32) = false := by
        rw [beq_eq_false_iff_ne]; intro e; exact h1 (UInt8.toNat_inj.1 (by have : (32 : UInt8).toNat = 32 := rfl; omega))
      have e2 : ((x.toNat : Int) == 9) = false := by
        rw [beq_eq_false_iff_ne]; intro e; exact h2 (UInt8.toNat_inj.1 (by have : (9 : UInt8).toNat = 9 := rfl; omega))
      rw [e1, e2]
      simp [blank, h1, h2]
theorem list_head (t : ByteArray) (h : 0 < t.size) : t.data.toList = t[0]'h :: t.data.toList.drop 1 := by
  have := drop_cons t 0 h
  rwa [List.drop_zero] at this
theorem ext_tail (t : ByteArray) (h : 0 < t.size) : (t.extract 1 t.size).data.toList = t.data.toList.drop 1 := by
  rw [ext_list, BA_data, List.take_of_length_le]
  rw [List.length_drop, size_list]; omega
theorem ext_init (t : ByteArray) : (t.extract 0 (t.size - 1)).data.toList = t.data.toList.take (t.size - 1) := by
  rw [ext_list, BA_data, List.drop_zero, Nat.sub_zero]
theorem list_last (t : ByteArray) (h : 0 < t.size) : t.data.toList = t.data.toList.take (t.size - 1) ++ [t[t.size - 1]'(by omega)] := by
  have h1 := take_snoc t 0 (t.size - 1) (by omega) (Nat.zero_le _)
  rw [List.drop_zero, Nat.sub_zero, Nat.sub_zero] at h1
  rw [← h1, List.take_of_length_le (by rw [size_list]; omega)]
theorem trimL_self (l : List UInt8) (h1 : ∀ x, l.head? = some x → blank x = false) (h2 : ∀ x, l.getLast? = some x → blank x = false) : trimL l = l := by
  rw [trimL_eq, dw_id l.reverse (by rw [List.head?_reverse]; exact h2), List.reverse_reverse, dw_id l h1]

end Go.Proofs.YtbdojobplhpnbabGreatDoor.lin
end

section
/- What the document's cut answers of any text: its parts between a byte. -/
set_option linter.unusedVariables false
set_option linter.unusedSimpArgs false
namespace Go.Proofs.YtbdojobplhpnbabGreatDoor.lin
open Go.RowKit

theorem infoStr2 : (Tryz.prog.info? 9).map (fun i => (i.zero, i.size, i.bytes)) = some (some (.string ByteArray.empty), 1, 16) := by kernel_rfl
theorem own_slice2 {w : World} {B e size n : Nat} {v : Value} {xs : List Value} (h : w.ownsRow B e size v n xs) : ∃ a c, v = .slice a n c := by
  rcases h.2 with hn | ⟨g, cap, cur, rfl, _⟩
  · obtain ⟨rfl, rfl⟩ := hn; exact ⟨_, _, rfl⟩
  · exact ⟨_, _, rfl⟩

end Go.Proofs.YtbdojobplhpnbabGreatDoor.lin
end

section
/- What the document's fields answers of any line: the same as lines.fieldsOf. -/
set_option linter.unusedVariables false
set_option linter.unusedSimpArgs false
namespace Go.Proofs.YtbdojobplhpnbabGreatDoor.lin
open Go.RowKit

/-- A row of strings: the slice, and each string where it lies. -/
theorem strRow {w : World} {base : Nat} {v : Value} {xs : List ByteArray} (h : w.ownsRow base 9 1 v xs.length (xs.map Value.string)) :
    ∃ a c, v = .slice a xs.length c ∧ (0 < xs.length → ∃ g, a = some ⟨g, 0, none⟩ ∧ base ≤ g ∧ g < w.heap.size ∧ xs.length ≤ c ∧ c ≤ maxLen ∧ (∃ cur : Array Value, w.heap[g]? = some (.cells cur 9 (0, 0)) ∧ ∀ (i : Nat) (x : ByteArray), xs[i]? = some x → cur[i]? = some (Value.string x)) ∧ ∀ (i : Nat) (x : ByteArray), xs[i]? = some x → w.cell? ⟨g, i, none⟩ = some (.string x)) := by
  rcases h.2 with hn | ⟨g, cap, cur, rfl, hg, hgg, h3, h4, h5, h6⟩
  · obtain ⟨rfl, h0⟩ := hn
    rw [h0]
    exact ⟨_, _, rfl, fun h => by omega⟩
  · have hc : ∀ (i : Nat) (x : ByteArray), xs[i]? = some x → cur[i]? = some (Value.string x) := by
      intro i x hx
      have hi : i < xs.length * 1 := by have := (List.getElem?_eq_some_iff.1 hx).1; omega
      rw [← Array.getElem?_toList, ← List.getElem?_take_of_lt hi, h6, List.getElem?_map, hx]
      rfl
    exact ⟨_, _, rfl, fun _ => ⟨g, rfl, hg, (Array.getElem?_eq_some_iff.1 hgg).1, h3, h4, ⟨cur, hgg, hc⟩, fun i x hx => by rw [cell_of_row w g i cur _ _ hgg]; exact hc i x hx⟩⟩
theorem own_lower {w : World} {B B2 e size n : Nat} {v : Value} {xs : List Value} (h : w.ownsRow B2 e size v n xs) (hb : B ≤ B2) : w.ownsRow B e size v n xs := by
  refine ⟨h.1, ?_⟩
  rcases h.2 with hn | ⟨g, cap, cur, rfl, hg, rest⟩
  · exact .inl hn
  · exact .inr ⟨g, cap, cur, rfl, by omega, rest⟩

theorem cutV_len2 (s : ByteArray) (b : Int) : (cutV s b).length ≤ s.size + 1 := cuts_len s b s.size 0 0
theorem cutV_head (s : ByteArray) (b : UInt8) : (cutV s (b.toNat : Int))[0]? = some (BA (s.data.toList.takeWhile (· ≠ b))) ∧ 0 < (cutV s (b.toNat : Int)).length := by
  rw [cutV_list, ← cutL_head]
  cases hc : cutL b s.data.toList with
  | nil => exact absurd hc (cutL_ne _ _)
  | cons x t => exact ⟨rfl, by simp⟩
theorem fieldsV_ref (s : ByteArray) : fieldsV s = if trim (BA (s.data.toList.takeWhile (· ≠ 35))) = BA [] then [] else (cutV (trim (BA (s.data.toList.takeWhile (· ≠ 35)))) 59).map trim := by
  have h59 := cutV_list (trim (BA (s.data.toList.takeWhile (· ≠ 35)))) 59
  rw [fieldsV_list, fieldsL_ref]
  rw [trim_BA] at h59 ⊢
  rw [BA_data] at h59
  have h59' : cutV (BA (trimL (s.data.toList.takeWhile (· ≠ 35)))) 59 = (cutL 59 (trimL (s.data.toList.takeWhile (· ≠ 35)))).map BA := h59
  rw [h59']
  generalize trimL (s.data.toList.takeWhile (· ≠ 35)) = t
  by_cases ht : t = []
  · rw [if_pos ht, if_pos (by rw [ht])]; rfl
  · rw [if_neg ht, if_neg (fun e => ht (by have := congrArg (fun x : ByteArray => x.data.toList) e; exact this)), List.map_map, List.map_map]
    rfl

end Go.Proofs.YtbdojobplhpnbabGreatDoor.lin
end

section
/- What the document's record answers of any fields: the record that they say, if they say one. -/
set_option linter.unusedVariables false
set_option linter.unusedSimpArgs false
namespace Go.Proofs.YtbdojobplhpnbabGreatDoor.lin
open Go.RowKit

theorem dots_hit {s : ByteArray} {i : Nat} (h : Lib.NoOcc s.data.toList [46, 46] i) (hi : i + 2 ≤ s.size) (ho : Lib.occAt s.data.toList [46, 46] i = true) : firstV s = s.extract 0 i ∧ secondV s = s.extract (i + 2) s.size := by
  have hx := Lib.index_hit h (by rw [size_list]; omega) ho
  have hc : Lib.cut s.data.toList [46, 46] = (s.data.toList.take i, s.data.toList.drop (i + 2), true) := by
    unfold Lib.cut
    rw [hx, if_pos (by omega)]
    rfl
  unfold secondV firstV
  rw [hc]
  constructor
  · rw [ext_list]; rfl
  · rw [ext_list, show (s.data.toList.drop (i + 2)).take (s.size - (i + 2)) = s.data.toList.drop (i + 2) from List.take_of_length_le (by rw [List.length_drop, size_list]; omega)]; rfl
theorem dots_none {s : ByteArray} {i : Nat} (h : Lib.NoOcc s.data.toList [46, 46] i) (hi : s.size < i + 2) : firstV s = s ∧ secondV s = s := by
  have hx := Lib.index_past (by simp) h (by rw [size_list]; exact hi)
  have hc : Lib.cut s.data.toList [46, 46] = (s.data.toList, [], false) := by
    unfold Lib.cut
    rw [hx, if_neg (by omega)]
  unfold secondV firstV
  rw [hc]
  exact ⟨rfl, rfl⟩
theorem occ_ext (s : ByteArray) (i : Nat) (hi : i + 2 ≤ s.size) : Lib.occAt s.data.toList [46, 46] i = ((s.extract i (i + 2)).data.toList == [46, 46]) := by
  have h0 : i < s.size := by omega
  have h1 : i + 1 < s.size := by omega
  rw [ext_list, BA_data, show i + 2 - i = 2 from by omega]
  unfold Lib.occAt
  rw [drop_cons s i h0, drop_cons s (i + 1) h1]
  simp [List.isPrefixOf, List.take]
  rw [BEq.comm (a := s[i]'h0), BEq.comm (a := s[i + 1]'h1)]

end Go.Proofs.YtbdojobplhpnbabGreatDoor.lin
end

section
/- The statement LinesApart, walked. -/
set_option linter.unusedVariables false
set_option linter.unusedSimpArgs false
namespace Go.Proofs.YtbdojobplhpnbabGreatDoor.lin
open Go.RowKit

theorem cutV_join (a b c : ByteArray) (hc : c.data.toList = a.data.toList ++ 10 :: b.data.toList) : cutV c 10 = cutV a 10 ++ cutV b 10 := by
  have h := cutV_list c 10
  have ha := cutV_list a 10
  have hb := cutV_list b 10
  rw [hc, cutL_append, List.map_append, ← ha, ← hb] at h
  exact h
theorem parseV_all (s : ByteArray) (h : (cutV s 10).all lineOk = true) : parseV s = (recsOf (cutV s 10), 0, 0) := by unfold parseV; rw [if_pos h]
theorem parseV_not (s : ByteArray) (h : (cutV s 10).all lineOk = false) : ∃ n, parseV s = ([], n + 1, 20) ∧ n + 1 ≤ (cutV s 10).length := by
  unfold parseV
  rw [if_neg (by rw [h]; simp)]
  refine ⟨_, rfl, ?_⟩
  have : ∃ x ∈ cutV s 10, (!lineOk x) = true := by
    simpa using h
  have := List.findIdx_lt_length_of_exists this
  omega
theorem recsOf_fields (s : ByteArray) : ∀ r ∈ recsOf (cutV s 10), r.2.2.length ≤ s.size + 1 := by
  intro r hr
  unfold recsOf at hr
  obtain ⟨x, hx, hr⟩ := List.mem_flatMap.1 hr
  unfold lineRecs at hr
  split at hr
  · cases hr
  · obtain rfl := List.mem_singleton.1 hr
    have h1 := fields_len x
    have h2 : x.size ≤ s.size := cuts_size _ _ _ _ _ x hx
    simp only [recV, List.length_tail]
    omega
theorem cutV_len (s : ByteArray) (b : Int) : (cutV s b).length ≤ s.size + 1 := cuts_len s b s.size 0 0

theorem Recs.lower {w : World} {base base2 : Nat} {v : Value} {rs : List RecT} (h : Recs w base2 v rs) (hb : base ≤ base2) : Recs w base v rs := by
  obtain ⟨L, hL, ho, hf⟩ := h
  refine ⟨L, hL, ⟨ho.1, ?_⟩, fun q hq => (hf q hq).lower hb⟩
  rcases ho.2 with hn | ⟨g, cap, cur, rfl, hg, rest⟩
  · exact .inl hn
  · exact .inr ⟨g, cap, cur, rfl, by omega, rest⟩
theorem Recs.kept {w w' : World} {base : Nat} {v : Value} {rs : List RecT} (h : Recs w base v rs) (hb : Below w.heap.size w w') : Recs w' base v rs := h.turns (D := fun _ => False) (.of_below hb) (fun _ h => h.elim)
theorem Recs.own_lt {w : World} {base : Nat} {v : Value} {rs : List RecT} (h : Recs w base v rs) : ∀ k, v.ownBlock = some k → base ≤ k ∧ k < w.heap.size := by
  obtain ⟨L, _, ho, _⟩ := h
  exact fun k e => ho.lt k e

/-- append(dst, src...), dst the call's own row of records, src nil or not. -/
theorem append_recs {w : World} {ops : Array Oper} {rest : List Oper} {o : Oper} {a : Act} {Q : Exit → Act → World → Prop} (hw : Region.wanted o (yielded ops a.tmps) = true) (s x : Operand)
    (ho : o.op = .call { callee := .builtin .append, args := #[s, x], argTypes := #[49, 49] })
    (base base2 : Nat) (vx vy : Value) (rx ry : List RecT) (hs : a.eval s = vx) (hx : a.eval x = vy) (hX : Recs w base vx rx) (hY : Recs w base2 vy ry) (hbb : base ≤ base2) (hbase : base ≤ w.heap.size) (hn : rx.length + ry.length ≤ 1099511627776)
    (h : ∀ v' w', Recs w' base v' (rx ++ ry) → w.grownBy w' vx.ownBlock → wpList Tryz.prog ops Q rest (a.put o.dst v') w') : wpList Tryz.prog ops Q (o :: rest) a w := by
  obtain ⟨i0, hi, hz0, hy1, hz2⟩ := info_parts infoRec3
  obtain ⟨Lx, rfl, ox, fx⟩ := hX
  obtain ⟨Ly, rfl, oy, fy⟩ := hY
  rw [List.length_map, List.length_map] at hn
  have fin : ∀ v' w', w'.ownsRow base 67 3 v' (Lx.length + Ly.length) (flatR Lx ++ flatR Ly) → w.grownBy w' vx.ownBlock → wpList Tryz.prog ops Q rest (a.put o.dst v') w' := by
    intro v' w' ho hg
    refine h v' w' ⟨Lx ++ Ly, by simp, by rw [List.length_append, flatR_append]; exact ho, fun q hq => ?_⟩ hg
    have t : Turns (fun k => ∃ cur, w.heap[k]? = some (.cells cur 67 (0, 0))) w w' := .of_grown hg (own_typed ox)
    rcases List.mem_append.1 hq with hq | hq
    · exact (fx q hq).turns t (fun k d => .inr d)
    · exact ((fy q hq).lower hbb).turns t (fun k d => .inr d)
  have one : ∀ u ∈ flatR Ly, u.oneCell' = true := by
    intro u hu
    unfold flatR at hu
    obtain ⟨q, hq, hu⟩ := List.mem_flatMap.1 hu
    obtain ⟨g, off, cap, cur, hv, _⟩ := fy q hq
    simp only [List.mem_cons, List.mem_nil_iff, or_false] at hu
    rcases hu with rfl | rfl | rfl
    · rfl
    · rfl
    · rw [hv]; rfl
  refine wpList_step fun K hK => ?_
  rw [if_pos hw]
  rcases oy.2 with hnil | ⟨g, cap, cur, rfl, hg, hgg, h3, h4, h5, h6⟩
  · obtain ⟨rfl, h0⟩ := hnil
    have h0' : Ly = [] := List.length_eq_zero_iff.1 h0
    subst h0'
    have hrun := run_append_owned_none (P := Tryz.prog) (w := w) base 49 o.type 67 i0 3 Tryz.underlying49 hi vx Lx.length (flatR Lx) ox
    unfold Oper.wp
    simp [execOp, ho, resolve, invoke, builtin, hs, hx, hrun, Result.andThen]
    exact hK _ _ (fin vx w (by simpa [flatR] using ox) ⟨rfl, rfl, rfl, Nat.le_refl _, fun _ _ _ => rfl⟩)
  · obtain ⟨v', w', hrun, r1, r2, _⟩ := run_append_own (P := Tryz.prog) (w := w) base 49 o.type 67 i0 (.agg #[.int .i64 0, .int .i64 0, .slice none 0 0]) 3 40 Tryz.underlying49 hi hz0 hy1 hz2 rfl (by decide) vx Lx.length (flatR Lx) ox ⟨g, 0, none⟩ Ly.length cap (flatR Ly) (flatR_length Ly)
      (fun j u hj => by
        have hlt : j < Ly.length * 3 := by rw [← flatR_length]; exact (List.getElem?_eq_some_iff.1 hj).1
        rw [show ((⟨g, 0, none⟩ : Addr).add j) = ⟨g, j, none⟩ from by simp [Addr.add]; omega, cell_of_row w g j cur _ _ hgg, ← hj, ← h6, List.getElem?_take_of_lt hlt, Array.getElem?_toList]) one (by unfold maxLen; omega) (by omega) hbase
    unfold Oper.wp
    simp [execOp, ho, resolve, invoke, builtin, hs, hx, hrun, Result.andThen]
    exact hK _ _ (fin v' w' r1 r2)

end Go.Proofs.YtbdojobplhpnbabGreatDoor.lin
end

section
/- What the document's Parse answers of any text: the same as lines.Parse. -/
set_option linter.unusedVariables false
set_option linter.unusedSimpArgs false
namespace Go.Proofs.YtbdojobplhpnbabGreatDoor.lin
open Go.RowKit

theorem Recs.push {A B : World} {base : Nat} {v v' : Value} {L : List RR} {lo hi : Int} {fv : Value} {fs : List ByteArray} (hf : ∀ q ∈ L, FAt A base q.fv q.fs) (ho : A.ownsRow base 67 3 v L.length (flatR L)) (hF : FAt A base fv fs) (hgrow : A.grownBy B v.ownBlock)
    (hown : B.ownsRow base 67 3 v' (L.length + 1) (flatR L ++ [.int .i64 lo, .int .i64 hi, fv])) : Recs B base v' (L.map RR.plain ++ [(lo, hi, fs)]) := by
  have t : Turns (fun k => ∃ cur, A.heap[k]? = some (.cells cur 67 (0, 0))) A B := .of_grown hgrow (own_typed ho)
  refine ⟨L ++ [⟨lo, hi, fv, fs⟩], by rw [List.map_append]; rfl, by rw [List.length_append, flatR_append]; exact hown, fun q hq => ?_⟩
  rcases List.mem_append.1 hq with hq | hq
  · exact (hf q hq).turns t (fun k d => .inr d)
  · obtain rfl := List.mem_singleton.1 hq
    exact hF.turns t (fun k d => .inr d)

end Go.Proofs.YtbdojobplhpnbabGreatDoor.lin
end

section
/- What lines.Rows answers of any text: the fields of each line that says something. -/
set_option linter.unusedVariables false
set_option linter.unusedSimpArgs false
namespace Go.Proofs.YtbdojobplhpnbabGreatDoor.lin
open Go.RowKit Go.Shelf
attribute [local go_sem] Oper.semAt_some

theorem infoStrs : (Tryz.prog.info? 25).map (fun i => (i.zero, i.size, i.bytes)) = some (some (.slice none 0 0), 1, 24) := by kernel_rfl

def rowOf (x : ByteArray) : List (List ByteArray) := if (fieldsV x).length = 0 then [] else [fieldsV x]
def rowsOf (ls : List ByteArray) : List (List ByteArray) := ls.flatMap rowOf
theorem rowsOf_snoc (pre : List ByteArray) (x : ByteArray) : rowsOf (pre ++ [x]) = rowsOf pre ++ rowOf x := by simp [rowsOf]
theorem rowsOf_len (pre : List ByteArray) : (rowsOf pre).length ≤ pre.length := by
  induction pre with
  | nil => exact Nat.le_refl _
  | cons x pre ih =>
    have : (rowOf x).length ≤ 1 := by unfold rowOf; split <;> simp
    simp only [rowsOf, List.flatMap_cons, List.length_append, List.length_cons] at *
    omega

/-- v is a slice of rows of strings, a row of its own from base on. -/
def RowsAt (w : World) (base : Nat) (v : Value) (rs : List (List ByteArray)) : Prop :=
  ∃ L : List (Value × List ByteArray), L.map (·.2) = rs ∧ w.ownsRow base 25 1 v L.length (L.map (·.1)) ∧ ∀ q ∈ L, FAt w base q.1 q.2
theorem FAt.turnsT {D : Nat → Prop} {A B : World} {base : Nat} {v : Value} {fs : List ByteArray} (t : TypeId) (ht : t ≠ 9) (h : FAt A base v fs) (tt : Turns D A B) (hd : ∀ k, D k → k < base ∨ (∃ cur, A.heap[k]? = some (.cells cur t (0, 0)))) : FAt B base v fs := by
  obtain ⟨g, off, cap, cur, rfl, hg, hgg, hc⟩ := h
  refine ⟨g, off, cap, cur, rfl, hg, (tt.block g (Array.getElem?_eq_some_iff.1 hgg).1 (fun d => ?_)).trans hgg, hc⟩
  rcases hd g d with h | ⟨cur', h⟩
  · omega
  · rw [hgg] at h; cases h; exact ht rfl
theorem RowsAt.turns {D : Nat → Prop} {A B : World} {base : Nat} {v : Value} {rs : List (List ByteArray)} (h : RowsAt A base v rs) (t : Turns D A B) (hd : ∀ k, D k → k < base) : RowsAt B base v rs := by
  obtain ⟨L, hL, ho, hf⟩ := h
  exact ⟨L, hL, t.own ho (fun k e d => by have := (ho.lt k e).1; have := hd k d; omega), fun q hq => (hf q hq).turnsT 25 (by decide) t (fun k d => .inl (hd k d))⟩
theorem RowsAt.kept {A B : World} {base : Nat} {v : Value} {rs : List (List ByteArray)} (h : RowsAt A base v rs) (hb : Below A.heap.size A B) : RowsAt B base v rs := h.turns (D := fun _ => False) (.of_below hb) (fun _ h => h.elim)
theorem RowsAt.nil (w : World) (base : Nat) : RowsAt w base (.slice none 0 0) [] := ⟨[], rfl, World.ownsRow_nil _ _ _ _, fun _ h => by cases h⟩
theorem RowsAt.lower {w : World} {base base2 : Nat} {v : Value} {rs : List (List ByteArray)} (h : RowsAt w base2 v rs) (hb : base ≤ base2) : RowsAt w base v rs := by
  obtain ⟨L, hL, ho, hf⟩ := h
  exact ⟨L, hL, own_lower ho hb, fun q hq => (hf q hq).lower hb⟩
theorem RowsAt.push {A B : World} {base : Nat} {v v' : Value} {L : List (Value × List ByteArray)} {fv : Value} {fs : List ByteArray} (hf : ∀ q ∈ L, FAt A base q.1 q.2) (ho : A.ownsRow base 25 1 v L.length (L.map (·.1))) (hF : FAt A base fv fs) (hgrow : A.grownBy B v.ownBlock)
    (hown : B.ownsRow base 25 1 v' (L.length + 1) (L.map (·.1) ++ [fv])) : RowsAt B base v' (L.map (·.2) ++ [fs]) := by
  have t : Turns (fun k => ∃ cur, A.heap[k]? = some (.cells cur 25 (0, 0))) A B := .of_grown hgrow (own_typed ho)
  refine ⟨L ++ [(fv, fs)], by rw [List.map_append]; rfl, by rw [List.length_append, List.map_append]; exact hown, fun q hq => ?_⟩
  rcases List.mem_append.1 hq with hq | hq
  · exact (hf q hq).turnsT 25 (by decide) t (fun k d => .inr d)
  · obtain rfl := List.mem_singleton.1 hq
    exact hF.turnsT 25 (by decide) t (fun k d => .inr d)

theorem four (w : World) (A0 A1 A2 A3 : Obj) {W : World} (hW : W = (((w.alloc A0).alloc A1).alloc A2).alloc A3) :
    W.heap.size = w.heap.size + 4 ∧ Below w.heap.size w W ∧ W.heap[w.heap.size]? = some A0 ∧ W.heap[w.heap.size + 1]? = some A1 ∧ W.heap[w.heap.size + 2]? = some A2 ∧ W.heap[w.heap.size + 3]? = some A3 := by
  have old : ∀ (V : World) (o o' : Obj) (k : Nat), V.heap[k]? = some o → (V.alloc o').heap[k]? = some o := fun V o o' k h => (Below.heap_alloc V o' k (Array.getElem?_eq_some_iff.1 h).1).trans h
  have new : ∀ (V : World) (o : Obj) (k : Nat), V.heap.size = k → (V.alloc o).heap[k]? = some o := fun V o k h => by rw [← h]; exact World.alloc_heap_new V o
  subst hW
  refine ⟨by simp, ?_, ?_, ?_, ?_, ?_⟩
  · exact ((((Below.refl _ w).alloc (Nat.le_refl _) _).alloc (by simp) _).alloc (by simp; omega) _).alloc (by simp; omega) _
  · exact old _ _ _ _ (old _ _ _ _ (old _ _ _ _ (new _ _ _ rfl)))
  · exact old _ _ _ _ (old _ _ _ _ (new _ _ _ (by simp)))
  · exact old _ _ _ _ (new _ _ _ (by simp))
  · exact new _ _ _ (by simp)

end Go.Proofs.YtbdojobplhpnbabGreatDoor.lin
end
