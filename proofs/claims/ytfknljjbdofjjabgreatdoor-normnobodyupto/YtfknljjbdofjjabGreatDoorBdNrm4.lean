/- Texts that the proof leans on, one behind the other. -/
import Derived.Test.YtfknljjbdofjjabGreatDoorBdNrm2
import Derived.Test.YtfknljjbdofjjabGreatDoorBdNrm3
import Derived.Laws.AppendOwnNone
import Derived.Lib.AppendZerosOnto
import Derived.Lib.SliceRun
import Derived.Deep.AppendLies

section
/- How a slice of items that came in as an argument reads. -/
set_option linter.unusedVariables false
set_option linter.unusedSimpArgs false
namespace Go.Proofs.YtfknljjbdofjjabGreatDoor.nrm
open Go.ChangeShapes Go.WideShapes Go.ChangeAt Go.RowKit Go.Deep
open Go.Proofs.YtfknljjbdofjjabGreatDoor.prp (IV okI)

/-- The argument v reads as the items l. -/
def ArgI (W : World) (v : Value) (l : List nfd.I) : Prop := ∃ ao cap, v = .slice ao l.length cap ∧ IVI W v l ∧ (∀ r ∈ l, okI r.1 ∧ okI r.2.1 ∧ okI r.2.2) ∧ l.length ≤ cap ∧ cap ≤ 9223372036854775807 ∧ (ao = none → cap = 0)
set_option maxRecDepth 100000 in
theorem open_items {H : Type} {enc : TypeId × Value → H} {W : World} {base : Nat} {v : Value} {d : DataW H} {p : List MemPlace}
    (hv : Value.okWide Tryz.prog W .any base 37 v) (h : DataW.Trod enc Tryz.prog W 0 (fun _ => true) true 37 v d p) :
    ∃ l : List nfd.I, ArgI W v l := by
  obtain ⟨ao, n, cap, rfl⟩ := okWide_slice Tryz.underlying37 hv
  obtain ⟨fuel, hf⟩ := h
  rcases open_slice Tryz.underlying37 hf with ⟨hcs, _⟩ | ⟨a, len, cap', m, k, D, Pl, hcs, _, hl, hm, hmm, hx, hel⟩
  · simp [Value.cells] at hcs
    obtain ⟨rfl, rfl, rfl⟩ := hcs
    exact ⟨[], none, 0, rfl, ⟨none, 0, rfl, fun h => by simp at h⟩, fun r h => (by cases h), by simp, by omega, fun _ => rfl⟩
  · simp [Value.cells] at hcs
    obtain ⟨rfl, rfl, rfl⟩ := hcs
    simp at hmm
    subst hmm
    have c3 : Tryz.prog.cellsOf 40 = 3 := by kernel_rfl
    have each : ∀ i, i < n → ∃ r : nfd.I, W.cell? (a.add (i * 3)) = some (.int .i64 r.1) ∧ W.cell? (a.add (i * 3 + 1)) = some (.int .i64 r.2.1) ∧ W.cell? (a.add (i * 3 + 2)) = some (.int .i64 r.2.2) ∧ okI r.1 ∧ okI r.2.1 ∧ okI r.2.2 := by
      intro i hi
      obtain ⟨cs', h1, h2⟩ := hel i (by omega)
      rw [c3] at h1
      obtain ⟨_, hlen, hcell⟩ := World.cells?_some h1
      obtain ⟨y0, y1, y2, kk, hy, _, g0, g1, g2⟩ := trod_struct3 Tryz.underlying40 h2
      match cs', hlen with
      | [v0, v1, v2], _ =>
        have e0 := hcell 0 (by omega)
        have e1 := hcell 1 (by omega)
        have e2 := hcell 2 (by omega)
        rw [Go.Deep.add_add] at e0 e1 e2
        have ci : Tryz.prog.cellsOf 3 = 1 := by kernel_rfl
        simp [ci] at g0 g1 g2
        obtain ⟨x0, hv0, hy0, o0⟩ := DataW.trod_int Tryz.underlying3 g0
        obtain ⟨x1, hv1, hy1, o1⟩ := DataW.trod_int Tryz.underlying3 g1
        obtain ⟨x2, hv2, hy2, o2⟩ := DataW.trod_int Tryz.underlying3 g2
        obtain rfl : v0 = .int .i64 x0 := by simpa using hv0
        obtain rfl : v1 = .int .i64 x1 := by simpa using hv1
        obtain rfl : v2 = .int .i64 x2 := by simpa using hv2
        exact ⟨(x0, x1, x2), by simpa using e0, by simpa using e1, by simpa using e2, by simpa [okI, Lit.wf, IntKind.min, IntKind.max, IntKind.signed, IntKind.bits] using o0, by simpa [okI, Lit.wf, IntKind.min, IntKind.max, IntKind.signed, IntKind.bits] using o1, by simpa [okI, Lit.wf, IntKind.min, IntKind.max, IntKind.signed, IntKind.bits] using o2⟩
    obtain ⟨Rf, hR⟩ := choose_lt each
    unfold maxLen at hm
    have hln : ((List.range n).map Rf).length = n := by rw [List.length_map, List.length_range]
    refine ⟨(List.range n).map Rf, some a, _, by rw [hln], ⟨some a, _, by rw [hln], fun h00 => ?_⟩, fun r hr => ?_, by rw [hln]; exact hl, by omega, fun e => (by cases e)⟩
    · have h0 : 0 < n := by rw [hln] at h00; exact h00
      obtain ⟨b, off, spot⟩ := a
      have hspot : spot = none := by simpa [Addr.add] using World.cell?_spot (hR 0 h0).1
      subst hspot
      refine ⟨b, off, rfl, fun i r hi => ?_⟩
      rw [List.getElem?_map] at hi
      have hil : i < n := by
        rcases Nat.lt_or_ge i n with h' | h'
        · exact h'
        · rw [List.getElem?_eq_none (by simpa using h')] at hi; cases hi
      rw [List.getElem?_range hil] at hi
      obtain rfl : Rf i = r := by simpa using hi
      obtain ⟨q1, q2, q3, _⟩ := hR i hil
      rw [Addr.add_lit] at q1 q2 q3
      exact ⟨q1, q2, q3⟩
    · obtain ⟨i, hi, rfl⟩ := List.mem_map.1 hr
      exact (hR i (List.mem_range.1 hi)).2.2.2
/-- The argument's first n items. -/
theorem ArgI.take {W : World} {ao : Option Addr} {cap len : Nat} {l : List nfd.I} (h : ArgI W (.slice ao len cap) l) (n : Nat) (hn : n ≤ l.length) : IVI W (.slice ao n cap) (l.take n) := by
  obtain ⟨a, c, e, ⟨a', c', e', hc⟩, _⟩ := h
  cases e
  cases e'
  have hl : (l.take n).length = n := by rw [List.length_take]; omega
  refine ⟨_, _, by rw [hl], fun h0 => ?_⟩
  obtain ⟨b, o, e, hx⟩ := hc (by omega)
  refine ⟨b, o, e, fun j p hj => hx j p ?_⟩
  have hjn : j < n := by have := (List.getElem?_eq_some_iff.1 hj).1; omega
  rw [List.getElem?_take_of_lt hjn] at hj
  exact hj
end Go.Proofs.YtfknljjbdofjjabGreatDoor.nrm
end

section
/- NormKeeps: the walk. -/
set_option linter.unusedVariables false
set_option linter.unusedSimpArgs false
namespace Go.Proofs.YtfknljjbdofjjabGreatDoor.nrm
open Go.Shelf Go.RowKit Go.Lib Go.Sort Go.Proofs
open Go.Proofs.YtfknljjbdofjjabGreatDoor.prp Go.Proofs.YtfknljjbdofjjabGreatDoor.nfd Go.Proofs.YtfknljjbdofjjabGreatDoor.lin Go.Proofs.YtfknljjbdofjjabGreatDoor.dcp

theorem keeps_from (l : List nfd.I) (x : nfd.I) (hx : x ∈ nfdI l) : ∃ y ∈ l, y.2.1 = x.2.1 ∧ y.2.2 = x.2.2 := by
  unfold nfdI at hx
  rw [mem_ordL] at hx
  obtain ⟨y, hy, h⟩ := List.mem_flatMap.1 hx
  obtain ⟨r, _, rfl⟩ := List.mem_map.1 h
  exact ⟨y, hy, rfl, rfl⟩
theorem keeps_to (l : List nfd.I) (y : nfd.I) (hy : y ∈ l) : ∃ x ∈ nfdI l, x.2.1 = y.2.1 ∧ x.2.2 = y.2.2 := by
  have h0 := full_pos y.1
  obtain ⟨r, hr⟩ := List.exists_mem_of_length_pos h0
  refine ⟨(r, y.2.1, y.2.2), ?_, rfl, rfl⟩
  unfold nfdI
  rw [mem_ordL]
  exact List.mem_flatMap.2 ⟨y, hy, List.mem_map.2 ⟨r, hr, rfl⟩⟩

set_option maxRecDepth 1000000 in
theorem keeps1_any (x1 x2 x3 r s e : Int) (xb : Nat) (W : World) (h : W.heap[xb]? = some (.cells #[.int .i64 r, .int .i64 s, .int .i64 e] 40 (0, 0))) :
    Calls Tryz.prog 22 #[.agg #[.int .i64 x1, .int .i64 x2, .int .i64 x3], .pointer (some ⟨xb, 0, none⟩)] W fun ex w' => ex = .returned (.bool (decide (x2 = s ∧ x3 = e))) ∧ Below W.heap.size W w' := by
  have hlt : xb < W.heap.size := (Array.getElem?_eq_some_iff.1 h).1
  have BA : Below W.heap.size W (W.alloc (.cells #[.int .i64 x1, .int .i64 x2, .int .i64 x3] 40)) := (Below.refl _ W).alloc (Nat.le_refl _) _
  have h' := (BA.block xb hlt).trans h
  have c1 := cell_of_row _ xb 1 _ _ _ h'
  have c2 := cell_of_row _ xb 2 _ _ _ h'
  simp at c1 c2
  have R : Hid (Below W.heap.size W (W.alloc (.cells #[.int .i64 x1, .int .i64 x2, .int .i64 x3] 40))) := BA
  clear BA h h'
  by_cases e1 : s = x2
  · subst e1
    by_cases e2 : e = x3
    · subst e2
      go_enter Tryz.func22, Tryz.ntmps22
      go_wp2
      go_ret
      exact ⟨by simp, R.out⟩
    · have e3 : ¬ x3 = e := fun h => e2 h.symm
      go_enter Tryz.func22, Tryz.ntmps22
      go_wp2
      go_ret
      exact ⟨by simp [e2, e3], R.out⟩
  · have e3 : ¬ x2 = s := fun h => e1 h.symm
    go_enter Tryz.func22, Tryz.ntmps22
    go_wp2
    go_ret
    exact ⟨by simp [e1, e3], R.out⟩
set_option maxRecDepth 1000000 in
theorem keeps2_any (x1 x2 x3 r s e : Int) (xb : Nat) (W : World) (h : W.heap[xb]? = some (.cells #[.int .i64 r, .int .i64 s, .int .i64 e] 40 (0, 0))) :
    Calls Tryz.prog 23 #[.agg #[.int .i64 x1, .int .i64 x2, .int .i64 x3], .pointer (some ⟨xb, 0, none⟩)] W fun ex w' => ex = .returned (.bool (decide (x2 = s ∧ x3 = e))) ∧ Below W.heap.size W w' := by
  have hlt : xb < W.heap.size := (Array.getElem?_eq_some_iff.1 h).1
  have BA : Below W.heap.size W (W.alloc (.cells #[.int .i64 x1, .int .i64 x2, .int .i64 x3] 40)) := (Below.refl _ W).alloc (Nat.le_refl _) _
  have h' := (BA.block xb hlt).trans h
  have c1 := cell_of_row _ xb 1 _ _ _ h'
  have c2 := cell_of_row _ xb 2 _ _ _ h'
  simp at c1 c2
  have R : Hid (Below W.heap.size W (W.alloc (.cells #[.int .i64 x1, .int .i64 x2, .int .i64 x3] 40))) := BA
  clear BA h h'
  by_cases e1 : s = x2
  · subst e1
    by_cases e2 : e = x3
    · subst e2
      go_enter Tryz.func23, Tryz.ntmps23
      go_wp2
      go_ret
      exact ⟨by simp, R.out⟩
    · have e3 : ¬ x3 = e := fun h => e2 h.symm
      go_enter Tryz.func23, Tryz.ntmps23
      go_wp2
      go_ret
      exact ⟨by simp [e2, e3], R.out⟩
  · have e3 : ¬ x2 = s := fun h => e1 h.symm
    go_enter Tryz.func23, Tryz.ntmps23
    go_wp2
    go_ret
    exact ⟨by simp [e1, e3], R.out⟩
set_option maxHeartbeats 1000000 in
set_option maxRecDepth 1000000 in
theorem index1_any (v : Value) (l : List nfd.I) (r s e : Int) (xb : Nat) (w : World) (hv : IVI w v l) (hb : w.heap[xb]? = some (.cells #[.int .i64 r, .int .i64 s, .int .i64 e] 40 (0, 0))) (hl : l.length ≤ 1000000) (hx : ∃ y ∈ l, y.2.1 = s ∧ y.2.2 = e) :
    Calls Tryz.prog 47 #[v, .func (.func 22) #[] #[.pointer (some ⟨xb, 0, none⟩)]] w fun ex w' => ∃ k : Nat, ex = .returned (.int .i64 k) ∧ Below w.heap.size w w' := by
  obtain ⟨ao, cap, rfl, hcells⟩ := hv
  have hlt : xb < w.heap.size := (Array.getElem?_eq_some_iff.1 hb).1
  have HB0 : Hid (∀ W, Below w.heap.size w W → W.heap[xb]? = some (.cells #[.int .i64 r, .int .i64 s, .int .i64 e] 40 (0, 0))) := fun W h => (h.block xb hlt).trans hb
  have HC : Hid (∀ k, k < l.length → ∃ x1 x2 x3 b o, l[k]? = some (x1, x2, x3) ∧ ao = some ⟨b, o, none⟩ ∧ w.cell? ⟨b, o + k * 3, none⟩ = some (.int .i64 x1) ∧ w.cell? ⟨b, o + k * 3 + 1, none⟩ = some (.int .i64 x2) ∧ w.cell? ⟨b, o + k * 3 + 2, none⟩ = some (.int .i64 x3)) := fun k hk => by
    obtain ⟨b, o, e, hc⟩ := hcells (by omega)
    obtain ⟨c1, c2, c3⟩ := hc k _ (List.getElem?_eq_getElem hk)
    exact ⟨_, _, _, b, o, List.getElem?_eq_getElem hk, e, c1, c2, c3⟩
  have HX : Hid (∃ k x1, k < l.length ∧ l[k]? = some (x1, s, e)) := by
    obtain ⟨⟨y1, y2, y3⟩, hy, rfl, rfl⟩ := hx
    obtain ⟨k, hk, e⟩ := List.getElem_of_mem hy
    exact ⟨k, y1, hk, by rw [List.getElem?_eq_getElem hk, e]⟩
  clear hcells hx hb
  generalize l.length = n at *
  go_enter Tryz.func47, Tryz.ntmps47
  go_wp2
  go_loopw [8] (fun i wr => ∃ k : Nat, k ≤ n ∧ i = .int .i64 k ∧ Hid (∀ j x1, j < k → l[j]? ≠ some (x1, s, e)) ∧ Hid (Below w.heap.size w wr)) (fun i _ => n - (RowKit.intOf i).toNat)
  case atStart => exact ⟨0, Nat.zero_le _, rfl, fun j _ h => by omega, Below.refl _ _⟩
  case round =>
    obtain ⟨k, hk, rfl, HN, HB⟩ := hrel
    by_cases hk2 : k < n
    · have hk3 : (k : Int) < (n : Int) := by omega
      have hk0 : (0 : Int) ≤ (k : Int) := by omega
      obtain ⟨x1, x2, x3, b, o, hg, rfl, c1, c2, c3⟩ := HC.out k hk2
      have d1 := cell_below HB.out c1
      have d2 := cell_below HB.out c2
      have d3 := cell_below HB.out c3
      have C := keeps1_any x1 x2 x3 r s e xb wr (HB0.out wr HB.out)
      have HG : Hid (l[k]? = some (x1, x2, x3)) := hg
      clear hg c1 c2 c3
      by_cases hm : x2 = s ∧ x3 = e
      · rw [decide_eq_true hm] at C
        clear hm
        go_wp2_with fail
        refine C.mono ?_
        rintro ex w2 ⟨rfl, b2⟩
        have R : Hid (Below w.heap.size w w2) := HB.out.trans (b2.mono HB.out.size)
        clear C b2
        go_wp2
        go_ret
        exact ⟨k, rfl, R.out⟩
      · rw [decide_eq_false hm] at C
        have HM : Hid (¬ (x2 = s ∧ x3 = e)) := hm
        clear hm
        go_wp2_with fail
        refine C.mono ?_
        rintro ex w2 ⟨rfl, b2⟩
        have R : Hid (Below w.heap.size w w2) := HB.out.trans (b2.mono HB.out.size)
        clear C b2
        go_wp2
        go_roundw
        case rel => exact ⟨k + 1, by omega, by go_num, fun j y hj he => by
          rcases Nat.lt_or_ge j k with h | h
          · exact HN.out j y h he
          · obtain rfl : j = k := by omega
            rw [HG.out] at he
            cases he
            exact HM.out ⟨rfl, rfl⟩, R⟩
        case measure => simp [RowKit.intOf]; omega
    · exfalso
      obtain ⟨j, x1, hj, e⟩ := HX.out
      exact HN.out j x1 (by omega) e
set_option maxRecDepth 1000000 in
theorem contains1_any (v : Value) (l : List nfd.I) (r s e : Int) (xb : Nat) (w : World) (hv : IVI w v l) (hb : w.heap[xb]? = some (.cells #[.int .i64 r, .int .i64 s, .int .i64 e] 40 (0, 0))) (hl : l.length ≤ 1000000) (hx : ∃ y ∈ l, y.2.1 = s ∧ y.2.2 = e) :
    Calls Tryz.prog 21 #[v, .func (.func 22) #[] #[.pointer (some ⟨xb, 0, none⟩)]] w fun ex w' => ex = .returned (.bool true) ∧ Below w.heap.size w w' := by
  have C := index1_any v l r s e xb w hv hb hl hx
  clear hb hx
  obtain ⟨ao, cap, rfl, _⟩ := hv
  generalize l.length = n at *
  go_enter Tryz.func21, Tryz.ntmps21
  go_wp2_with fail
  refine C.mono ?_
  rintro ex w1 ⟨k, rfl, b1⟩
  have hk : (k : Int) ≥ 0 := by omega
  have hk' : (0 : Int) ≤ (k : Int) := by omega
  clear C
  go_wp2
  go_ret
  exact ⟨rfl, b1⟩
set_option maxHeartbeats 1000000 in
set_option maxRecDepth 1000000 in
theorem index2_any (v : Value) (l : List nfd.I) (r s e : Int) (xb : Nat) (w : World) (hv : IVI w v l) (hb : w.heap[xb]? = some (.cells #[.int .i64 r, .int .i64 s, .int .i64 e] 40 (0, 0))) (hl : l.length ≤ 1000000) (hx : ∃ y ∈ l, y.2.1 = s ∧ y.2.2 = e) :
    Calls Tryz.prog 47 #[v, .func (.func 23) #[] #[.pointer (some ⟨xb, 0, none⟩)]] w fun ex w' => ∃ k : Nat, ex = .returned (.int .i64 k) ∧ Below w.heap.size w w' := by
  obtain ⟨ao, cap, rfl, hcells⟩ := hv
  have hlt : xb < w.heap.size := (Array.getElem?_eq_some_iff.1 hb).1
  have HB0 : Hid (∀ W, Below w.heap.size w W → W.heap[xb]? = some (.cells #[.int .i64 r, .int .i64 s, .int .i64 e] 40 (0, 0))) := fun W h => (h.block xb hlt).trans hb
  have HC : Hid (∀ k, k < l.length → ∃ x1 x2 x3 b o, l[k]? = some (x1, x2, x3) ∧ ao = some ⟨b, o, none⟩ ∧ w.cell? ⟨b, o + k * 3, none⟩ = some (.int .i64 x1) ∧ w.cell? ⟨b, o + k * 3 + 1, none⟩ = some (.int .i64 x2) ∧ w.cell? ⟨b, o + k * 3 + 2, none⟩ = some (.int .i64 x3)) := fun k hk => by
    obtain ⟨b, o, e, hc⟩ := hcells (by omega)
    obtain ⟨c1, c2, c3⟩ := hc k _ (List.getElem?_eq_getElem hk)
    exact ⟨_, _, _, b, o, List.getElem?_eq_getElem hk, e, c1, c2, c3⟩
  have HX : Hid (∃ k x1, k < l.length ∧ l[k]? = some (x1, s, e)) := by
    obtain ⟨⟨y1, y2, y3⟩, hy, rfl, rfl⟩ := hx
    obtain ⟨k, hk, e⟩ := List.getElem_of_mem hy
    exact ⟨k, y1, hk, by rw [List.getElem?_eq_getElem hk, e]⟩
  clear hcells hx hb
  generalize l.length = n at *
  go_enter Tryz.func47, Tryz.ntmps47
  go_wp2
  go_loopw [8] (fun i wr => ∃ k : Nat, k ≤ n ∧ i = .int .i64 k ∧ Hid (∀ j x1, j < k → l[j]? ≠ some (x1, s, e)) ∧ Hid (Below w.heap.size w wr)) (fun i _ => n - (RowKit.intOf i).toNat)
  case atStart => exact ⟨0, Nat.zero_le _, rfl, fun j _ h => by omega, Below.refl _ _⟩
  case round =>
    obtain ⟨k, hk, rfl, HN, HB⟩ := hrel
    by_cases hk2 : k < n
    · have hk3 : (k : Int) < (n : Int) := by omega
      have hk0 : (0 : Int) ≤ (k : Int) := by omega
      obtain ⟨x1, x2, x3, b, o, hg, rfl, c1, c2, c3⟩ := HC.out k hk2
      have d1 := cell_below HB.out c1
      have d2 := cell_below HB.out c2
      have d3 := cell_below HB.out c3
      have C := keeps2_any x1 x2 x3 r s e xb wr (HB0.out wr HB.out)
      have HG : Hid (l[k]? = some (x1, x2, x3)) := hg
      clear hg c1 c2 c3
      by_cases hm : x2 = s ∧ x3 = e
      · rw [decide_eq_true hm] at C
        clear hm
        go_wp2_with fail
        refine C.mono ?_
        rintro ex w2 ⟨rfl, b2⟩
        have R : Hid (Below w.heap.size w w2) := HB.out.trans (b2.mono HB.out.size)
        clear C b2
        go_wp2
        go_ret
        exact ⟨k, rfl, R.out⟩
      · rw [decide_eq_false hm] at C
        have HM : Hid (¬ (x2 = s ∧ x3 = e)) := hm
        clear hm
        go_wp2_with fail
        refine C.mono ?_
        rintro ex w2 ⟨rfl, b2⟩
        have R : Hid (Below w.heap.size w w2) := HB.out.trans (b2.mono HB.out.size)
        clear C b2
        go_wp2
        go_roundw
        case rel => exact ⟨k + 1, by omega, by go_num, fun j y hj he => by
          rcases Nat.lt_or_ge j k with h | h
          · exact HN.out j y h he
          · obtain rfl : j = k := by omega
            rw [HG.out] at he
            cases he
            exact HM.out ⟨rfl, rfl⟩, R⟩
        case measure => simp [RowKit.intOf]; omega
    · exfalso
      obtain ⟨j, x1, hj, e⟩ := HX.out
      exact HN.out j x1 (by omega) e
set_option maxRecDepth 1000000 in
theorem contains2_any (v : Value) (l : List nfd.I) (r s e : Int) (xb : Nat) (w : World) (hv : IVI w v l) (hb : w.heap[xb]? = some (.cells #[.int .i64 r, .int .i64 s, .int .i64 e] 40 (0, 0))) (hl : l.length ≤ 1000000) (hx : ∃ y ∈ l, y.2.1 = s ∧ y.2.2 = e) :
    Calls Tryz.prog 21 #[v, .func (.func 23) #[] #[.pointer (some ⟨xb, 0, none⟩)]] w fun ex w' => ex = .returned (.bool true) ∧ Below w.heap.size w w' := by
  have C := index2_any v l r s e xb w hv hb hl hx
  clear hb hx
  obtain ⟨ao, cap, rfl, _⟩ := hv
  generalize l.length = n at *
  go_enter Tryz.func21, Tryz.ntmps21
  go_wp2_with fail
  refine C.mono ?_
  rintro ex w1 ⟨k, rfl, b1⟩
  have hk : (k : Int) ≥ 0 := by omega
  have hk' : (0 : Int) ≤ (k : Int) := by omega
  clear C
  go_wp2
  go_ret
  exact ⟨rfl, b1⟩
theorem mem_get {l : List nfd.I} {k : Nat} {x : nfd.I} (h : l[k]? = some x) : x ∈ l := List.mem_of_getElem? h
set_option maxHeartbeats 2000000 in
set_option maxRecDepth 1000000 in
theorem keeps_walk (v : Value) (l : List nfd.I) (w : World) (h : ArgI w v l) (E : Env w) : Calls Tryz.prog 7 #[v] w fun e w' => e = .returned (.bool true) ∧ Below w.heap.size w w' := by
  have HE : Hid (Env w) := E
  have HA : Hid (ArgI w v l) := h
  have C := load_any w E
  obtain ⟨ao, cap, rfl, hcells, hok, hcap, hmax, hnil⟩ := h
  obtain ⟨n, hn⟩ : ∃ n, min l.length 60 = n := ⟨_, rfl⟩
  have hnl : n ≤ l.length := by omega
  have hn60 : n ≤ 60 := by omega
  have HV : Hid (IVI w (.slice ao n cap) (l.take n)) := HA.out.take n hnl
  have HLN : Hid ((l.take n).length = n) := by show _ = _; rw [List.length_take]; omega
  have HOK : Hid (∀ x ∈ l.take n, okI x.1) := fun x hx => (hok x (List.mem_of_mem_take hx)).1
  have hmin : min (l.length : Int) 60 = (n : Int) := by omega
  have hmin2 : (if (l.length : Int) < 60 then (l.length : Int) else 60) = (n : Int) := by split <;> omega
  have hmin3 : (if (60 : Int) < (l.length : Int) then 60 else (l.length : Int)) = (n : Int) := by split <;> omega
  have hmin4 : (if (l.length : Int) ≤ 60 then (l.length : Int) else 60) = (n : Int) := by split <;> omega
  have hncap : (n : Int) ≤ (cap : Int) := by omega
  have hn0 : (0 : Int) ≤ (n : Int) := by omega
  generalize hLN : l.take n = LN at *
  generalize l.length = ll at *
  clear hcells hok hLN HA E hnil hn
  go_enter Tryz.func7, Tryz.ntmps7
  go_wp2_with fail
  refine C.mono ?_
  rintro e w1 ⟨t, rfl, ht, b1⟩
  clear C
  have HB1 : Hid (Below w.heap.size w w1) := b1
  have C := items_any t (.slice ao n cap) LN w1 ht (HV.out.below b1) HOK.out (by rw [HLN.out]; omega)
  have hle := nfdI_len LN
  rw [HLN.out] at hle
  have HF : Hid (∀ x ∈ nfdI LN, ∃ y ∈ LN, y.2.1 = x.2.1 ∧ y.2.2 = x.2.2) := keeps_from LN
  have HG : Hid (∀ y ∈ LN, ∃ x ∈ nfdI LN, x.2.1 = y.2.1 ∧ x.2.2 = y.2.2) := keeps_to LN
  clear ht b1
  go_wp2_with fail
  refine C.mono ?_
  rintro e w2 ⟨v2, rfl, ho, b2⟩
  clear C
  have HB2 : Hid (Below w.heap.size w w2) := HB1.out.trans (b2.mono HB1.out.size)
  have HM : Hid (IVI w2 v2 (nfdI LN)) := ho.iv
  have HV2 : Hid (IVI w2 (.slice ao n cap) LN) := HV.out.below HB2.out
  obtain ⟨ma, mc, rfl, hcl⟩ := ho.iv
  generalize nfdI LN = M at *
  have HC : Hid (∀ k, k < M.length → ∃ x1 x2 x3 b o, M[k]? = some (x1, x2, x3) ∧ ma = some ⟨b, o, none⟩ ∧ w2.cell? ⟨b, o + k * 3, none⟩ = some (.int .i64 x1) ∧ w2.cell? ⟨b, o + k * 3 + 1, none⟩ = some (.int .i64 x2) ∧ w2.cell? ⟨b, o + k * 3 + 2, none⟩ = some (.int .i64 x3)) := fun k hk => by
    obtain ⟨b, o, e, hc⟩ := hcl (by omega)
    obtain ⟨c1, c2, c3⟩ := hc k _ (List.getElem?_eq_getElem hk)
    exact ⟨_, _, _, b, o, List.getElem?_eq_getElem hk, e, c1, c2, c3⟩
  have HC2 : Hid (∀ k, k < n → ∃ x1 x2 x3 b o, LN[k]? = some (x1, x2, x3) ∧ ao = some ⟨b, o, none⟩ ∧ w2.cell? ⟨b, o + k * 3, none⟩ = some (.int .i64 x1) ∧ w2.cell? ⟨b, o + k * 3 + 1, none⟩ = some (.int .i64 x2) ∧ w2.cell? ⟨b, o + k * 3 + 2, none⟩ = some (.int .i64 x3)) := fun k hk => by
    obtain ⟨a, c, e, hcl2⟩ := HV2.out
    cases e
    have hk' : k < LN.length := by rw [HLN.out]; exact hk
    obtain ⟨b, o, e, hc⟩ := hcl2 (by omega)
    obtain ⟨c1, c2, c3⟩ := hc k _ (List.getElem?_eq_getElem hk')
    exact ⟨_, _, _, b, o, List.getElem?_eq_getElem hk', e, c1, c2, c3⟩
  obtain ⟨mn, hmn⟩ : ∃ mn, M.length = mn := ⟨_, rfl⟩
  have HMN : Hid (M.length = mn) := hmn
  rw [hmn] at hle HC HM ⊢
  clear ho b2 HB1 HV hcl hmn
  go_wp2
  go_loopw [18] (fun i wr => ∃ k : Nat, k ≤ mn ∧ i = .int .i64 k ∧ Hid (Below w2.heap.size w2 wr)) (fun i _ => mn - (RowKit.intOf i).toNat)
  case atStart => exact ⟨0, Nat.zero_le _, rfl, Below.refl _ _⟩
  case round =>
    obtain ⟨k, hk, rfl, HB⟩ := hrel
    by_cases hk2 : k < mn
    · have hk3 : (k : Int) < (mn : Int) := by omega
      have hk0 : (0 : Int) ≤ (k : Int) := by omega
      obtain ⟨x1, x2, x3, b, o, hg, rfl, c1, c2, c3⟩ := HC.out k hk2
      have d1 := cell_below HB.out c1
      have d2 := cell_below HB.out c2
      have d3 := cell_below HB.out c3
      have HBW : Hid (Below wr.heap.size wr (wr.alloc (.cells #[.int .i64 x1, .int .i64 x2, .int .i64 x3] 40))) := (Below.refl _ wr).alloc (Nat.le_refl _) _
      have HBX : Hid (Below w2.heap.size w2 (wr.alloc (.cells #[.int .i64 x1, .int .i64 x2, .int .i64 x3] 40))) := HB.out.trans (HBW.out.mono HB.out.size)
      have C := contains1_any (.slice ao n cap) LN x1 x2 x3 wr.heap.size _ (HV2.out.below HBX.out) (World.alloc_heap_new wr (.cells #[.int .i64 x1, .int .i64 x2, .int .i64 x3] 40)) (by rw [HLN.out]; omega) (HF.out _ (mem_get hg))
      clear hg c1 c2 c3
      go_wp2_with fail
      refine C.mono ?_
      rintro ex w3 ⟨rfl, b3⟩
      have R : Hid (Below w2.heap.size w2 w3) := HBX.out.trans (b3.mono HBX.out.size)
      clear C b3
      go_wp2
      go_roundw
      case rel => exact ⟨k + 1, by omega, by go_num, R⟩
      case measure => simp [RowKit.intOf]; omega
    · have hk3 : ¬ (k : Int) < (mn : Int) := by omega
      have HB3 : Hid (Below w2.heap.size w2 wr) := HB
      clear HB
      generalize wr = w3 at *
      go_wp2
      go_loopw [29] (fun i wr => ∃ k : Nat, k ≤ n ∧ i = .int .i64 k ∧ Hid (Below w2.heap.size w2 wr)) (fun i _ => n - (RowKit.intOf i).toNat)
      case atStart => exact ⟨0, Nat.zero_le _, rfl, HB3⟩
      case round =>
        obtain ⟨j, hj, rfl, HB⟩ := hrel
        by_cases hj2 : j < n
        · have hj3 : (j : Int) < (n : Int) := by omega
          have hj0 : (0 : Int) ≤ (j : Int) := by omega
          obtain ⟨x1, x2, x3, b, o, hg, rfl, c1, c2, c3⟩ := HC2.out j hj2
          have d1 := cell_below HB.out c1
          have d2 := cell_below HB.out c2
          have d3 := cell_below HB.out c3
          have HBW : Hid (Below wr.heap.size wr (wr.alloc (.cells #[.int .i64 x1, .int .i64 x2, .int .i64 x3] 40))) := (Below.refl _ wr).alloc (Nat.le_refl _) _
          have HBX : Hid (Below w2.heap.size w2 (wr.alloc (.cells #[.int .i64 x1, .int .i64 x2, .int .i64 x3] 40))) := HB.out.trans (HBW.out.mono HB.out.size)
          have C := contains2_any (.slice ma mn mc) M x1 x2 x3 wr.heap.size _ (HM.out.below HBX.out) (World.alloc_heap_new wr (.cells #[.int .i64 x1, .int .i64 x2, .int .i64 x3] 40)) (by rw [HMN.out]; omega) (HG.out _ (mem_get hg))
          clear hg c1 c2 c3
          go_wp2_with fail
          refine C.mono ?_
          rintro ex w4 ⟨rfl, b4⟩
          have R : Hid (Below w2.heap.size w2 w4) := HBX.out.trans (b4.mono HBX.out.size)
          clear C b4
          go_wp2
          go_roundw
          case rel => exact ⟨j + 1, by omega, by go_num, R⟩
          case measure => simp [RowKit.intOf]; omega
        · have hj3 : ¬ (j : Int) < (n : Int) := by omega
          have HB5 : Hid (Below w.heap.size w wr) := HB2.out.trans (HB.out.mono HB2.out.size)
          have C := awake_any wr (HE.out.below HB5.out)
          go_wp2_with fail
          refine C.mono ?_
          rintro e w6 ⟨rfl, b6⟩
          have R : Hid (Below w.heap.size w w6) := HB5.out.trans (b6.mono HB5.out.size)
          clear C b6
          go_wp2
          go_ret
          exact ⟨rfl, R.out⟩
end Go.Proofs.YtfknljjbdofjjabGreatDoor.nrm
end

section
/- slices.Concat of two rows of numbers; the walk of NormJoins. -/
set_option linter.unusedVariables false
set_option linter.unusedSimpArgs false
namespace Go.Proofs.YtfknljjbdofjjabGreatDoor.nrm
open Go.Shelf Go.RowKit Go.Lib Go.Sort Go.Proofs
open Go.Proofs.YtfknljjbdofjjabGreatDoor.prp Go.Proofs.YtfknljjbdofjjabGreatDoor.nfd Go.Proofs.YtfknljjbdofjjabGreatDoor.lin Go.Proofs.YtfknljjbdofjjabGreatDoor.dcp

theorem infoI64 : (Tryz.prog.info? 3).map (fun i => (i.zero, i.size, i.bytes)) = some (some (.int .i64 0), 1, 8) := by kernel_rfl

set_option maxRecDepth 1000000 in
theorem grow_zero (w : World) : Calls Tryz.prog 42 #[.slice none 0 0, .int .i64 0] w fun e w' => e = .returned (.slice none 0 0) ∧ w' = w := by
  go_enter Tryz.func42, Tryz.ntmps42
  go_wp2
  go_ret
  exact ⟨rfl, rfl⟩

set_option maxHeartbeats 400000 in
set_option maxRecDepth 1000000 in
theorem grow_pos (n : Nat) (w : World) (h0 : 0 < n) (hn : n ≤ 100000) :
    Calls Tryz.prog 42 #[.slice none 0 0, .int .i64 n] w fun e w' => ∃ v, e = .returned v ∧ IOwn w' w.heap.size v [] ∧ Below w.heap.size w w' := by
  obtain ⟨i0, hi, hz0, hz1, hz2⟩ := info_parts infoI64
  have hold : (Builtin.firstCells i0.size 0 (.slice none 0 0)).run Tryz.prog w.drew = .ok ([] : List Value).toArray w.drew := run_firstCells_none w.drew i0.size 0 0 0
  have hrz : ∀ ty, (Builtin.append_ #[22, 3] ty #[.slice none 0 0, .int .i64 (n : Int)]).run Tryz.prog w =
      .ok (.slice (some ⟨w.heap.size, 0, none⟩) n (grownCap w n 0 3)) (w.drew.alloc (.cells (([] : List Value).toArray ++ Builtin.zeroCells (Value.int .i64 0).cells n ++ Builtin.zeroCells (Value.int .i64 0).cells (grownCap w n 0 3 - n)) 3)) := fun ty => by
    have h := Lib.run_append_grow_zeros w 22 3 ty 3 i0 (.int .i64 0) .i64 .i64 Tryz.underlying22 Tryz.underlying3 hi hz0 none 0 0 [] hold n (by omega) (by omega) (by omega) (by omega)
      (by rw [hz2]; omega)
      (by rw [Nat.zero_add]; exact growslice_fits h0 (by rw [hz2]; omega))
    simpa using h
  have hGn : n ≤ grownCap w n 0 3 := grownCap_ge w _ _ _
  have hG63 := grownCap_le_maxLen w n 0 3 (by unfold maxLen; omega)
  have hp : (0 : Int) < (n : Int) := by omega
  generalize grownCap w n 0 3 = G at *
  have HO : Hid ((w.alloc (.cells (Builtin.zeroCells #[.int .i64 0] n ++ Builtin.zeroCells #[.int .i64 0] (G - n)) 3)).drew.ownsRow w.heap.size 3 1 (.slice (some ⟨w.heap.size, 0, none⟩) 0 G) 0 []) :=
    (World.ownsRow_made (base := w.heap.size) (e := 3) (size := 1) w _ G (Nat.le_refl _) hG63 (by simp [Builtin.zeroCells]; omega)).drew
  clear hold
  have hGb : G ≤ 9223372036854775807 := by unfold maxLen at hG63; omega
  go_enter Tryz.func42, Tryz.ntmps42
  go_wp2_with (at_builtin; refine Lib.wpList_append_run _ rfl _ _ _ _ rfl _ _ rfl rfl _ _ (hrz _) ?_)
  all_goals go_ret
  all_goals exact ⟨_, rfl, HO.out, ((Below.refl _ _).alloc (Nat.le_refl _) _).drew⟩

/-- append(dst, src...), dst the call's own, src nil or not. -/
theorem wpList_append_src {w : World} {ops : Array Oper} {rest : List Oper} {o : Oper} {a : Act} {Q : Exit → Act → World → Prop} (hgd : o.guard = none) (s x : Operand)
    (ho : o.op = .call { callee := .builtin .append, args := #[s, x], argTypes := #[22, 22] })
    (base : Nat) (i : TypeInfo) (hi : Tryz.prog.info? 3 = some i) (hz : i.zero = some (.int .i64 0)) (hsize : i.size = 1) (hby : i.bytes = 8)
    (v : Value) (n : Nat) (xs : List Value) (hs : a.eval s = v) (hown : w.ownsRow base 3 1 v n xs)
    (ao : Option Addr) (m c : Nat) (news : List Value) (hx : a.eval x = .slice ao m c) (hl : news.length = m) (hnil : ao = none → m = 0 ∧ c = 0)
    (hnews : ∀ ad, ao = some ad → ∀ j u, news[j]? = some u → w.cell? (ad.add j) = some u) (h1 : ∀ u ∈ news, u.oneCell' = true)
    (h63 : n + m ≤ maxLen) (hbytes : (n + m) * 8 ≤ 140737488355328) (hbase : base ≤ w.heap.size)
    (h : ∀ v' w', w'.ownsRow base 3 1 v' (n + m) (xs ++ news) → w.grownBy w' v.ownBlock → wpList Tryz.prog ops Q rest (a.put o.dst v') w') : wpList Tryz.prog ops Q (o :: rest) a w := by
  cases ao with
  | none =>
    obtain ⟨rfl, rfl⟩ := hnil rfl
    obtain rfl := List.eq_nil_of_length_eq_zero hl
    refine wpList_append_own_none hgd s x 22 ho base 3 i 1 Tryz.underlying22 hi v n xs hs hown hx (h v w ?_ ⟨rfl, rfl, rfl, Nat.le_refl _, fun _ _ _ => rfl⟩)
    simpa using hown
  | some ad =>
    exact wpList_append_own w hgd s x 22 ho base 3 i (.int .i64 0) 1 8 Tryz.underlying22 hi hz hsize hby rfl (by decide) v n xs hs hown ad m c news hx (by simpa using hl) (hnews ad rfl) h1 h63 hbytes hbase (fun v' w' h2 h3 _ => h v' w' h2 h3)

theorem iv_news {w : World} {ao : Option Addr} {n c : Nat} {l : List Int} (h : IV w (.slice ao n c) l) (hl : l.length = n) : ∀ ad, ao = some ad → ∀ (j : Nat) (u : Value), (l.map (Value.int .i64))[j]? = some u → w.cell? (ad.add j) = some u := by
  intro ad e j u hj
  obtain ⟨a, c', e', hc⟩ := h
  cases e'
  subst e
  have hjn : j < l.length := by
    rcases Nat.lt_or_ge j l.length with h | h
    · exact h
    · rw [List.getElem?_eq_none (by simpa using h)] at hj; simp at hj
  obtain ⟨b, o, e, hx⟩ := hc (by omega)
  cases e
  rw [Addr.add_lit, hx j hjn, ← hj, List.getElem?_map, List.getD_eq_getElem?_getD, List.getElem?_eq_getElem hjn]
  rfl

set_option maxHeartbeats 1000000 in
set_option maxRecDepth 1000000 in
theorem concat_any (B na ca nb cb : Nat) (aa ab : Option Addr) (la lb : List Int) (w : World) (c0 : w.cell? ⟨B, 0, none⟩ = some (.slice aa na ca)) (c1 : w.cell? ⟨B, 1, none⟩ = some (.slice ab nb cb))
    (hA : IV w (.slice aa na ca) la) (hB : IV w (.slice ab nb cb) lb) (hla : la.length = na) (hlb : lb.length = nb) (hna : aa = none → na = 0 ∧ ca = 0) (hnb : ab = none → nb = 0 ∧ cb = 0) (hn : na + nb ≤ 100000) :
    Calls Tryz.prog 18 #[.slice (some ⟨B, 0, none⟩) 2 2] w fun e w' => ∃ v, e = .returned v ∧ IOwn w' w.heap.size v (la ++ lb) ∧ Below w.heap.size w w' := by
  obtain ⟨i0, hi, hz0, hz1, hz2⟩ := info_parts infoI64
  have C0 : Hid (w.cell? ⟨B, 0, none⟩ = some (.slice aa na ca)) := c0
  have C1 : Hid (w.cell? ⟨B, 1, none⟩ = some (.slice ab nb cb)) := c1
  have HA : Hid (IV w (.slice aa na ca) la) := hA
  have HB : Hid (IV w (.slice ab nb cb) lb) := hB
  have HNA : Hid (aa = none → na = 0 ∧ ca = 0) := hna
  have HNB : Hid (ab = none → nb = 0 ∧ cb = 0) := hnb
  have HLA : Hid (la.length = na) := hla
  have HLB : Hid (lb.length = nb) := hlb
  have GR : ∀ w, Calls Tryz.prog 42 #[.slice none 0 0, .int .i64 ((na : Int) + (nb : Int))] w fun e w' => ∃ v, e = .returned v ∧ w'.ownsRow w.heap.size 3 1 v 0 [] ∧ Below w.heap.size w w' := by
    intro w
    rcases Nat.eq_zero_or_pos (na + nb) with h | h
    · have e : (na : Int) + (nb : Int) = 0 := by omega
      rw [e]
      refine (grow_zero w).mono ?_
      rintro e w' ⟨rfl, rfl⟩
      exact ⟨_, rfl, World.ownsRow_nil _ _ _ _, Below.refl _ _⟩
    · have := grow_pos (na + nb) w h hn
      rw [Int.natCast_add] at this
      exact this
  have HG : Hid (∀ w, Calls Tryz.prog 42 #[.slice none 0 0, .int .i64 ((na : Int) + (nb : Int))] w fun e w' => ∃ v, e = .returned v ∧ w'.ownsRow w.heap.size 3 1 v 0 [] ∧ Below w.heap.size w w') := GR
  clear GR hA hB hna hnb hla hlb
  go_enter Tryz.func18, Tryz.ntmps18
  go_wp2
  refine wp_loop_rounds 3 ?_
  rw [rounds_succ]
  go_wp2
  rw [rounds_succ]
  go_wp2
  rw [rounds_succ]
  go_wp2_with fail
  refine (HG.out _).mono ?_
  rintro e w1 ⟨v, rfl, hown, hb1⟩
  clear HG
  go_wp2
  go_loopw [6, 27] (fun v i wr => Below w.heap.size w wr ∧ ((i = .int .i64 0 ∧ wr.ownsRow w.heap.size 3 1 v 0 []) ∨ (i = .int .i64 1 ∧ wr.ownsRow w.heap.size 3 1 v na (la.map (Value.int .i64))) ∨ (i = .int .i64 2 ∧ wr.ownsRow w.heap.size 3 1 v (na + nb) ((la ++ lb).map (Value.int .i64))))) (fun _ i _ => 3 - (RowKit.intOf i).toNat)
  case atStart => exact ⟨hb1, .inl ⟨rfl, hown⟩⟩
  case round =>
    clear hown hb1
    obtain ⟨hbel, ⟨rfl, hown⟩ | ⟨rfl, hown⟩ | ⟨rfl, hown⟩⟩ := hrel
    ·
      have cc := (hbel.cell (World.block_lt_of_cell? w _ C0.out)).trans C0.out
      have HNW : Hid (∀ ad, aa = some ad → ∀ (j : Nat) (u : Value), (la.map (Value.int .i64))[j]? = some u → wr.cell? (ad.add j) = some u) := iv_news (HA.out.below hbel) HLA.out
      go_wp2_with (at_builtin; refine wpList_append_src rfl _ _ rfl w.heap.size i0 hi hz0 hz1 hz2 _ _ _ rfl hown aa na ca (la.map (Value.int .i64)) rfl ?c0 HNA.out HNW.out ?c2 ?c3 ?c4 hbel.size ?_)
      case c0 => rw [List.length_map]; exact HLA.out
      case c2 => intro u hu; simp at hu; obtain ⟨x, _, rfl⟩ := hu; rfl
      case c3 => unfold maxLen; omega
      case c4 => omega
      · intro v' w3 hown3 hgrow
        have R3 := Below.grown hbel hgrow hbel.size (fun k e => (hown.lt _ e).1)
        clear hgrow hown hbel HNW
        go_wp2
        go_roundw
        case rel => exact ⟨R3, .inr (.inl ⟨rfl, by simpa using hown3⟩)⟩
        case measure => simp [RowKit.intOf]
    ·
      have cc := (hbel.cell (World.block_lt_of_cell? w _ C1.out)).trans C1.out
      have HNW : Hid (∀ ad, ab = some ad → ∀ (j : Nat) (u : Value), (lb.map (Value.int .i64))[j]? = some u → wr.cell? (ad.add j) = some u) := iv_news (HB.out.below hbel) HLB.out
      go_wp2_with (at_builtin; refine wpList_append_src rfl _ _ rfl w.heap.size i0 hi hz0 hz1 hz2 _ _ _ rfl hown ab nb cb (lb.map (Value.int .i64)) rfl ?c0 HNB.out HNW.out ?c2 ?c3 ?c4 hbel.size ?_)
      case c0 => rw [List.length_map]; exact HLB.out
      case c2 => intro u hu; simp at hu; obtain ⟨x, _, rfl⟩ := hu; rfl
      case c3 => unfold maxLen; omega
      case c4 => omega
      · intro v' w3 hown3 hgrow
        have R3 := Below.grown hbel hgrow hbel.size (fun k e => (hown.lt _ e).1)
        clear hgrow hown hbel HNW
        go_wp2
        go_roundw
        case rel => exact ⟨R3, .inr (.inr ⟨rfl, by rw [List.map_append]; exact hown3⟩)⟩
        case measure => simp [RowKit.intOf]
    · go_wp2
      go_ret
      refine ⟨_, rfl, ?_, hbel⟩
      unfold IOwn
      rw [List.length_append, HLA.out, HLB.out]
      exact hown
/-- An own row is nil with capacity 0, or lies somewhere. -/
theorem iown_nil {w : World} {B : Nat} {a : Option Addr} {n c : Nat} {l : List Int} (h : IOwn w B (.slice a n c) l) : a = none → n = 0 ∧ c = 0 := by
  intro e
  subst e
  rcases h.2 with ⟨h0, hn⟩ | ⟨g, cap, cur, h0, _⟩
  · cases h0; exact ⟨rfl, rfl⟩
  · cases h0
set_option maxHeartbeats 2000000 in
set_option maxRecDepth 1000000 in
theorem joins_walk (va : Value) (la : List Int) (vb : Value) (lb : List Int) (w : World) (ha : ArgC w va la) (hb : ArgC w vb lb) (E : Env w) : Calls Tryz.prog 5 #[va, vb] w fun e w' => e = .returned (.bool true) ∧ Below w.heap.size w w' := by
  have HE : Hid (Env w) := E
  have HA : Hid (ArgC w va la) := ha
  have HA2 : Hid (ArgC w vb lb) := hb
  obtain ⟨aa, ca, rfl, _, hoka, hcapa, hmaxa, hnila⟩ := ha
  obtain ⟨ab, cb, rfl, _, hokb, hcapb, hmaxb, hnilb⟩ := hb
  obtain ⟨n, hn⟩ : ∃ n, min la.length 100 = n := ⟨_, rfl⟩
  obtain ⟨m, hm⟩ : ∃ m, min lb.length 100 = m := ⟨_, rfl⟩
  have hnl : n ≤ la.length := by omega
  have hml : m ≤ lb.length := by omega
  have hn100 : n ≤ 100 := by omega
  have hm100 : m ≤ 100 := by omega
  have HV : Hid (IV w (.slice aa n ca) (la.take n)) := HA.out.take n hnl
  have HV2 : Hid (IV w (.slice ab m cb) (lb.take m)) := HA2.out.take m hml
  have HL : Hid ((la.take n).length = n) := by show _ = _; rw [List.length_take]; omega
  have HL2 : Hid ((lb.take m).length = m) := by show _ = _; rw [List.length_take]; omega
  have HOK : Hid (∀ x ∈ la.take n, okI x) := fun x hx => hoka x (List.mem_of_mem_take hx)
  have HOK2 : Hid (∀ x ∈ lb.take m, okI x) := fun x hx => hokb x (List.mem_of_mem_take hx)
  have HNA : Hid (aa = none → n = 0 ∧ ca = 0) := fun e => by have := hnila e; exact ⟨by omega, this⟩
  have HNB : Hid (ab = none → m = 0 ∧ cb = 0) := fun e => by have := hnilb e; exact ⟨by omega, this⟩
  have hmin : min (la.length : Int) 100 = (n : Int) := by omega
  have hminb : min (lb.length : Int) 100 = (m : Int) := by omega
  have hmin2 : (if (la.length : Int) < 100 then (la.length : Int) else 100) = (n : Int) := by split <;> omega
  have hmin3 : (if (100 : Int) < (la.length : Int) then 100 else (la.length : Int)) = (n : Int) := by split <;> omega
  have hmin4 : (if (la.length : Int) ≤ 100 then (la.length : Int) else 100) = (n : Int) := by split <;> omega
  have hmin2b : (if (lb.length : Int) < 100 then (lb.length : Int) else 100) = (m : Int) := by split <;> omega
  have hmin3b : (if (100 : Int) < (lb.length : Int) then 100 else (lb.length : Int)) = (m : Int) := by split <;> omega
  have hmin4b : (if (lb.length : Int) ≤ 100 then (lb.length : Int) else 100) = (m : Int) := by split <;> omega
  have hncap : (n : Int) ≤ (ca : Int) := by omega
  have hmcap : (m : Int) ≤ (cb : Int) := by omega
  have hn0 : (0 : Int) ≤ (n : Int) := by omega
  have hm0 : (0 : Int) ≤ (m : Int) := by omega
  generalize la.take n = LA at *
  generalize lb.take m = LB at *
  generalize la.length = lla at *
  generalize lb.length = llb at *
  clear hoka hokb HA HA2 E hnila hnilb hn hm
  go_enter Tryz.func5, Tryz.ntmps5
  go_wp2_with fail
  go_quiet (fail)
  have HB0 : Hid (Below w.heap.size w (w.drewN nq)) := Go.Proofs.YtfknljjbdofjjabGreatDoor.rng.below_drewN (Below.refl _ w) _
  generalize w.drewN nq = w0 at HB0 ⊢
  have C := load_any w0 (HE.out.below HB0.out)
  clear hmin hminb hmin2 hmin3 hmin4 hmin2b hmin3b hmin4b hncap hmcap hn0 hm0 hnl hml hcapa hcapb hmaxa hmaxb
  go_wp2_with fail
  refine C.mono ?_
  rintro e w1 ⟨t, rfl, ht, b1⟩
  clear C
  have HT1 : Hid (Tabs w1 t) := ht
  have HB1 : Hid (Below w.heap.size w w1) := HB0.out.trans (b1.mono HB0.out.size)
  clear ht b1 HB0
  have HW2 : Hid (Below w1.heap.size w1 (w1.alloc (.cells #[.slice aa n ca, .slice ab m cb] 22))) := (Below.refl w1.heap.size w1).alloc (Nat.le_refl _) _
  have HX0 : Hid ((w1.alloc (.cells #[.slice aa n ca, .slice ab m cb] 22)).cell? ⟨w1.heap.size, 0, none⟩ = some (.slice aa n ca)) := by show _ = _; rw [World.cell?, heap_alloc_new]; rfl
  have HX1 : Hid ((w1.alloc (.cells #[.slice aa n ca, .slice ab m cb] 22)).cell? ⟨w1.heap.size, 1, none⟩ = some (.slice ab m cb)) := by show _ = _; rw [World.cell?, heap_alloc_new]; rfl
  have C := concat_any w1.heap.size n ca m cb aa ab LA LB _ HX0.out HX1.out ((HV.out.below HB1.out).below HW2.out) ((HV2.out.below HB1.out).below HW2.out) HL.out HL2.out HNA.out HNB.out (by omega)
  have HB2 : Hid (Below w.heap.size w (w1.alloc (.cells #[.slice aa n ca, .slice ab m cb] 22))) := HB1.out.trans (HW2.out.mono HB1.out.size)
  have HT2 : Hid (Tabs (w1.alloc (.cells #[.slice aa n ca, .slice ab m cb] 22)) t) := HT1.out.below HW2.out
  clear HX0 HX1 HW2 HT1 HB1
  go_wp2_with fail
  generalize w1.alloc (.cells #[.slice aa n ca, .slice ab m cb] 22) = w2 at *
  refine C.mono ?_
  rintro e w3 ⟨v3, rfl, ho, b3⟩
  clear C
  have HB3 : Hid (Below w.heap.size w w3) := HB2.out.trans (b3.mono HB2.out.size)
  have HT3 : Hid (Tabs w3 t) := HT2.out.below b3
  have HO : Hid (∀ x ∈ LA ++ LB, okI x) := fun x hx => (List.mem_append.1 hx).elim (HOK.out x) (HOK2.out x)
  have C := runes_any t v3 (LA ++ LB) w3 HT3.out ho.iv HO.out (by rw [List.length_append, HL.out, HL2.out]; omega)
  clear ho b3 HB2 HT2 HO
  go_wp2_with fail
  refine C.mono ?_
  rintro e w4 ⟨v4, rfl, ho4, b4⟩
  clear C
  have HB4 : Hid (Below w.heap.size w w4) := HB3.out.trans (b4.mono HB3.out.size)
  have HT4 : Hid (Tabs w4 t) := HT3.out.below b4
  have HR1 : Hid (IV w4 v4 (nfdR (LA ++ LB))) := ho4.iv
  clear ho4 b4 HB3 HT3
  have C := runes_any t (.slice aa n ca) LA w4 HT4.out (HV.out.below HB4.out) HOK.out (by rw [HL.out]; omega)
  go_wp2_with fail
  refine C.mono ?_
  rintro e w5 ⟨v5, rfl, ho5, b5⟩
  clear C
  have HB5 : Hid (Below w.heap.size w w5) := HB4.out.trans (b5.mono HB4.out.size)
  have HT5 : Hid (Tabs w5 t) := HT4.out.below b5
  have HR2 : Hid (IV w5 v4 (nfdR (LA ++ LB))) := HR1.out.below b5
  have HM1 : Hid (IOwn w5 w4.heap.size v5 (nfdR LA)) := ho5
  clear ho5 b5 HB4 HT4 HR1
  have C := runes_any t (.slice ab m cb) LB w5 HT5.out (HV2.out.below HB5.out) HOK2.out (by rw [HL2.out]; omega)
  go_wp2_with fail
  refine C.mono ?_
  rintro e w6 ⟨v6, rfl, ho6, b6⟩
  clear C
  have HB6 : Hid (Below w.heap.size w w6) := HB5.out.trans (b6.mono HB5.out.size)
  have HT6 : Hid (Tabs w6 t) := HT5.out.below b6
  have HR3 : Hid (IV w6 v4 (nfdR (LA ++ LB))) := HR2.out.below b6
  have HM2 : Hid (IOwn w6 w4.heap.size v5 (nfdR LA)) := HM1.out.below b6
  have HM3 : Hid (IOwn w6 w5.heap.size v6 (nfdR LB)) := ho6
  clear ho6 b6 HB5 HT5 HR2 HM1
  have HJ : Hid (nfdR (nfdR LA ++ nfdR LB) = nfdR (LA ++ LB)) := nfdR_joins LA LB
  have HO1 : Hid (∀ x ∈ nfdR LA ++ nfdR LB, okI x) := fun x hx => (List.mem_append.1 hx).elim (nfdR_ok HOK.out x) (nfdR_ok HOK2.out x)
  have hz1 := nfdR_le LA
  have hz2 := nfdR_le LB
  have hz3 := nfdR_le (LA ++ LB)
  rw [List.length_append] at hz3
  rw [HL.out] at hz1 hz3
  rw [HL2.out] at hz2 hz3
  generalize nfdR LA = MA at *
  generalize nfdR LB = MB at *
  generalize nfdR (LA ++ LB) = MM at *
  obtain ⟨k1, hk1⟩ : ∃ k1, MA.length = k1 := ⟨_, rfl⟩
  obtain ⟨k2, hk2⟩ : ∃ k2, MB.length = k2 := ⟨_, rfl⟩
  obtain ⟨k3, hk3⟩ : ∃ k3, MM.length = k3 := ⟨_, rfl⟩
  have HK1 : Hid (MA.length = k1) := hk1
  have HK2 : Hid (MB.length = k2) := hk2
  have HK3 : Hid (MM.length = k3) := hk3
  obtain ⟨a5, c5, h5⟩ := own_slice HM2.out
  obtain ⟨a6, c6, h6⟩ := own_slice HM3.out
  rw [hk1] at h5 hz1
  rw [hk2] at h6 hz2
  rw [hk3] at hz3
  subst h5 h6
  clear hk1 hk2 hk3
  have HW2 : Hid (Below w6.heap.size w6 (w6.alloc (.cells #[.slice a5 k1 c5, .slice a6 k2 c6] 22))) := (Below.refl w6.heap.size w6).alloc (Nat.le_refl _) _
  have HX0 : Hid ((w6.alloc (.cells #[.slice a5 k1 c5, .slice a6 k2 c6] 22)).cell? ⟨w6.heap.size, 0, none⟩ = some (.slice a5 k1 c5)) := by show _ = _; rw [World.cell?, heap_alloc_new]; rfl
  have HX1 : Hid ((w6.alloc (.cells #[.slice a5 k1 c5, .slice a6 k2 c6] 22)).cell? ⟨w6.heap.size, 1, none⟩ = some (.slice a6 k2 c6)) := by show _ = _; rw [World.cell?, heap_alloc_new]; rfl
  have C := concat_any w6.heap.size k1 c5 k2 c6 a5 a6 MA MB _ HX0.out HX1.out (HM2.out.iv.below HW2.out) (HM3.out.iv.below HW2.out) HK1.out HK2.out (iown_nil HM2.out) (iown_nil HM3.out) (by omega)
  have HB7 : Hid (Below w.heap.size w (w6.alloc (.cells #[.slice a5 k1 c5, .slice a6 k2 c6] 22))) := HB6.out.trans (HW2.out.mono HB6.out.size)
  have HT7 : Hid (Tabs (w6.alloc (.cells #[.slice a5 k1 c5, .slice a6 k2 c6] 22)) t) := HT6.out.below HW2.out
  have HR7 : Hid (IV (w6.alloc (.cells #[.slice a5 k1 c5, .slice a6 k2 c6] 22)) v4 MM) := HR3.out.below HW2.out
  clear HX0 HX1 HW2 HT6 HB6 HM2 HM3 HR3
  go_wp2_with fail
  generalize w6.alloc (.cells #[.slice a5 k1 c5, .slice a6 k2 c6] 22) = w7 at *
  refine C.mono ?_
  rintro e w8 ⟨v8, rfl, ho8, b8⟩
  clear C
  have HB8 : Hid (Below w.heap.size w w8) := HB7.out.trans (b8.mono HB7.out.size)
  have HR8 : Hid (IV w8 v4 MM) := HR7.out.below b8
  have C := runes_any t v8 (MA ++ MB) w8 (HT7.out.below b8) ho8.iv HO1.out (by rw [List.length_append, HK1.out, HK2.out]; omega)
  rw [HJ.out] at C
  clear ho8 b8 HB7 HT7 HR7
  go_wp2_with fail
  refine C.mono ?_
  rintro e w9 ⟨v9, rfl, ho9, b9⟩
  clear C
  have HB9 : Hid (Below w.heap.size w w9) := HB8.out.trans (b9.mono HB8.out.size)
  have C := iequal_any v4 v9 MM w9 (HR8.out.below b9) ho9.iv (by rw [HK3.out]; omega)
  clear ho9 b9 HB8 HR8
  go_wp2_with fail
  refine C.mono ?_
  rintro e w10 ⟨rfl, b10⟩
  clear C
  have HB10 : Hid (Below w.heap.size w w10) := HB9.out.trans (b10.mono HB9.out.size)
  have C := awake_any w10 (HE.out.below HB10.out)
  clear b10 HB9
  go_wp2_with fail
  refine C.mono ?_
  rintro e w11 ⟨rfl, b11⟩
  have R : Hid (Below w.heap.size w w11) := HB10.out.trans (b11.mono HB10.out.size)
  clear C b11
  go_wp2
  go_ret
  exact ⟨rfl, R.out⟩
end Go.Proofs.YtfknljjbdofjjabGreatDoor.nrm
end
