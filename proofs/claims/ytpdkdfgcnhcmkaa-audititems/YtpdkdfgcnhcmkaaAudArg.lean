/- How bytes, texts, spans and matches that came in as arguments read, and how long they are at most. -/
import Derived.Test.YtpdkdfgcnhcmkaaRows
import Derived.Test.YtpdkdfgcnhcmkaaAudOrd
import Derived.ProofKit
import Derived.OpenShut
import Derived.Deep.Strs
set_option linter.unusedVariables false
set_option linter.unusedSimpArgs false
namespace Go.Proofs.Ytpdkdfgcnhcmkaa.aud
open Go.ChangeShapes Go.WideShapes Go.ChangeAt Go.RowKit Go.Deep
open Go.Proofs.Ytpdkdfgcnhcmkaa.edt

theorem bulk_one {H : Type} (d : DataW H) : 1 ≤ Rows.uptoBulk d := by
  cases d with
  | lit l => cases l <;> simp [Rows.uptoBulk]
  | _ => simp [Rows.uptoBulk]
theorem bulk_length {H : Type} (l : List (DataW H)) : l.length ≤ Rows.uptoBulkAll l := by
  induction l with
  | nil => simp [Rows.uptoBulkAll]
  | cons x r ih => have := bulk_one x; simp only [Rows.uptoBulkAll, List.length_cons]; omega
theorem bulk_mem {H : Type} (l : List (DataW H)) (d : DataW H) (h : d ∈ l) : Rows.uptoBulk d ≤ Rows.uptoBulkAll l := by
  induction l with
  | nil => cases h
  | cons x r ih =>
    simp only [Rows.uptoBulkAll]
    rcases List.mem_cons.1 h with rfl | h
    · omega
    · have := ih h; omega
/-- From the address on lie n texts. -/
structure TV (w : World) (ao : Option Addr) (n cap : Nat) (ls : List (List Int)) : Prop where
  len : ls.length = n
  nc : n ≤ cap
  cm : cap ≤ 9223372036854775807
  cell : n = 0 ∨ ∃ b off, ao = some ⟨b, off, none⟩ ∧ ∀ i, i < n → ∃ a m c, w.cell? ⟨b, off + i, none⟩ = some (.slice a m c) ∧ BS w a m c (ls.getD i [])
theorem TV.below {w w' : World} {ao : Option Addr} {n cap : Nat} {ls : List (List Int)} (h : TV w ao n cap ls) (hb : Below w.heap.size w w') : TV w' ao n cap ls := by
  refine ⟨h.len, h.nc, h.cm, ?_⟩
  rcases h.cell with k | ⟨b, off, rfl, k⟩
  · exact .inl k
  · refine .inr ⟨b, off, rfl, fun i hi => ?_⟩
    obtain ⟨a, m, c, h1, h2⟩ := k i hi
    exact ⟨a, m, c, (hb.cell (World.block_lt_of_cell? w _ h1)).trans h1, h2.below hb⟩
theorem TV.at_ {w : World} {ao : Option Addr} {n cap : Nat} {ls : List (List Int)} (h : TV w ao n cap ls) (h0 : 0 < n) : ∃ b off, ao = some ⟨b, off, none⟩ ∧ ∀ i, i < n → ∃ a m c, w.cell? ⟨b, off + i, none⟩ = some (.slice a m c) ∧ BS w a m c (ls.getD i []) := by
  rcases h.cell with h | h
  · omega
  · exact h

theorem bytes_of {H : Type} {enc : TypeId × Value → H} {W : World} {fuel : Nat} {v : Value} {x : DataW H × List MemPlace} (hf : DataW.trod enc Try.prog W 0 (fun _ => true) true fuel 25 [v] = some x) :
    ∃ ao n cap l, v = .slice ao n cap ∧ BS W ao n cap l ∧ n ≤ Rows.uptoBulk x.1 := by
  rcases open_ints Try.underlying25 Try.underlying5 (by kernel_rfl) hf with ⟨hcs, _⟩ | ⟨x, n, cap, zs, hcs, _, hl, hm, hz, hx, hcell, hwz⟩
  · obtain rfl : v = .slice none 0 0 := by simpa using hcs
    exact ⟨none, 0, 0, [], rfl, BS.nilv W, Nat.zero_le _⟩
  · obtain rfl : v = .slice (some x) n cap := by simpa using hcs
    simp at hz
    unfold maxLen at hm
    have hlen : (zs.take n).length = n := by rw [List.length_take]; omega
    have hget : ∀ i, i < n → (zs.take n).getD i 0 = zs[i]?.getD 0 := fun i hi => by rw [List.getD_eq_getElem?_getD, List.getElem?_take, if_pos hi]
    refine ⟨some x, n, cap, zs.take n, rfl, ⟨hlen, hl, by omega, (fun e => by cases e), ?_, ?_⟩, ?_⟩
    · intro i
      rcases Nat.lt_or_ge i n with hi | hi
      · rw [hget i hi]; exact range_u8 hwz i
      · rw [List.getD_eq_getElem?_getD, List.getElem?_eq_none (by omega)]; simp
    · rcases Nat.eq_zero_or_pos n with h0 | h0
      · exact .inl h0
      · obtain ⟨b, off, spot⟩ := x
        have hspot : spot = none := by simpa [Addr.add] using World.cell?_spot (hcell 0 (by omega))
        subst hspot
        exact .inr ⟨b, off, rfl, fun i hi => by rw [hget i hi, ← Addr.add_lit]; simpa using hcell i (by omega)⟩
    · subst hx
      have h1 := bulk_length (lits (H := H) .u8 (zs.take n))
      simp only [lits, List.length_map] at h1
      simp only [Rows.uptoBulk, lits]
      omega
set_option maxRecDepth 100000 in
theorem spans_of {H : Type} {enc : TypeId × Value → H} {W : World} {fuel : Nat} {v : Value} {x : DataW H × List MemPlace} (hf : DataW.trod enc Try.prog W 0 (fun _ => true) true fuel 35 [v] = some x) :
    ∃ ao n cap l, v = .slice ao n cap ∧ SS W ao n cap l := by
  rcases Go.Deep.open_slice Try.underlying35 hf with ⟨hcs, _⟩ | ⟨a, n, cap, m, k, D, Pl, hcs, _, hl, hm, hmm, hx, hel⟩
  · obtain rfl : v = .slice none 0 0 := by simpa using hcs
    exact ⟨none, 0, 0, [], rfl, rfl, Nat.le_refl _, by omega, .inl rfl⟩
  · obtain rfl : v = .slice (some a) n cap := by simpa using hcs
    simp at hmm
    subst hmm
    have c2 : Try.prog.cellsOf 34 = 2 := by kernel_rfl
    have each : ∀ i, i < n → ∃ r : Sp, W.cell? (a.add (i * 2)) = some (.int .i64 r.1) ∧ W.cell? (a.add (i * 2 + 1)) = some (.int .i64 r.2) := by
      intro i hi
      obtain ⟨cs', h1, h2⟩ := hel i (by omega)
      rw [c2] at h1
      obtain ⟨_, hlen, hcell⟩ := World.cells?_some h1
      obtain ⟨y0, y1, kk, hy, _, g0, g1⟩ := trod_struct2 Try.underlying34 h2
      match cs', hlen with
      | [v0, v1], _ =>
        have e0 := hcell 0 (by omega)
        have e1 := hcell 1 (by omega)
        rw [Go.Deep.add_add] at e0 e1
        have ci : Try.prog.cellsOf 3 = 1 := by kernel_rfl
        simp [ci] at g0 g1
        obtain ⟨x0, hv0, hy0, _⟩ := DataW.trod_int Try.underlying3 g0
        obtain ⟨x1, hv1, hy1, _⟩ := DataW.trod_int Try.underlying3 g1
        obtain rfl : v0 = .int .i64 x0 := by simpa using hv0
        obtain rfl : v1 = .int .i64 x1 := by simpa using hv1
        exact ⟨(x0, x1), by simpa using e0, by simpa using e1⟩
    obtain ⟨Rf, hR⟩ := choose_lt each
    unfold maxLen at hm
    refine ⟨some a, n, _, (List.range n).map Rf, rfl, by rw [List.length_map, List.length_range], by simpa using hl, by omega, ?_⟩
    rcases Nat.eq_zero_or_pos n with h0 | h0
    · exact .inl h0
    · obtain ⟨b, off, spot⟩ := a
      have hspot : spot = none := by simpa [Addr.add] using World.cell?_spot (hR 0 h0).1
      subst hspot
      refine .inr ⟨b, off, rfl, fun i hi => ?_⟩
      have e : ((List.range n).map Rf).getD i (0, 0) = Rf i := by rw [List.getD_eq_getElem?_getD, List.getElem?_map, List.getElem?_range hi]; rfl
      obtain ⟨h1, h2⟩ := hR i hi
      rw [Addr.add_lit] at h1 h2
      rw [e]
      exact ⟨h1, by rw [Nat.add_assoc]; exact h2⟩
theorem range_get {α : Type} (n i : Nat) (f : Nat → α) (d : α) (hi : i < n) : ((List.range n).map f).getD i d = f i := by
  rw [List.getD_eq_getElem?_getD, List.getElem?_map, List.getElem?_range hi]; rfl
set_option maxRecDepth 100000 in
theorem open_founds {H : Type} {enc : TypeId × Value → H} {W : World} {base : Nat} {v : Value} {d : DataW H} {p : List MemPlace}
    (hv : Value.okWide Try.prog W .any base 22 v) (h : DataW.Trod enc Try.prog W 0 (fun _ => true) true 22 v d p) :
    ∃ ao n cap l, v = .slice ao n cap ∧ MS W ao n cap l ∧ n ≤ Rows.uptoBulk d := by
  obtain ⟨ao, n, cap, rfl⟩ := okWide_slice Try.underlying22 hv
  obtain ⟨fuel, hf⟩ := h
  have cf : Try.prog.cellsOf 37 = 1 := by kernel_rfl
  have csp : Try.prog.cellsOf 35 = 1 := by kernel_rfl
  rcases Go.Deep.open_slice1 Try.underlying22 cf hf with ⟨hcs, _⟩ | ⟨a, len, cap', m, k, V, D, Pl, hcs, _, hl, hm, hmm, hx, hel⟩
  · simp [Value.cells] at hcs
    obtain ⟨rfl, rfl, rfl⟩ := hcs
    exact ⟨none, 0, 0, [], rfl, MS.nilv W, Nat.zero_le _⟩
  · simp [Value.cells] at hcs
    obtain ⟨rfl, rfl, rfl⟩ := hcs
    simp at hmm
    subst hmm
    unfold maxLen at hm
    have each : ∀ i, i < n → ∃ r : List Sp, ∃ b m c, V i = .slice b m c ∧ SS W b m c r := by
      intro i hi
      obtain ⟨h1, h2⟩ := hel i (by omega)
      obtain ⟨y0, kk, hy, _, g0⟩ := trod_struct1 Try.underlying37 h2
      simp [csp] at g0
      obtain ⟨b, m, c, r, e, hs⟩ := spans_of g0
      exact ⟨r, b, m, c, e, hs⟩
    obtain ⟨Rf, hR⟩ := choose_lt each
    refine ⟨some a, n, _, (List.range n).map Rf, rfl, ⟨by rw [List.length_map, List.length_range], by simpa using hl, by omega, ?_⟩, ?_⟩
    · rcases Nat.eq_zero_or_pos n with h0 | h0
      · exact .inl h0
      · obtain ⟨b, off, spot⟩ := a
        have hspot : spot = none := by simpa [Addr.add] using World.cell?_spot (hel 0 (by omega)).1
        subst hspot
        refine .inr ⟨b, off, rfl, fun i hi => ?_⟩
        have h1 := (hel i (by omega)).1
        obtain ⟨b2, m2, c2, e, hs⟩ := hR i hi
        rw [Addr.add_lit, e] at h1
        rw [range_get n i Rf [] hi]
        exact ⟨b2, m2, c2, h1, hs⟩
    · cases hx
      have h1 := bulk_length ((List.range n).map D)
      rw [List.length_map, List.length_range] at h1
      simp only [Rows.uptoBulk]
      omega
theorem open_texts {H : Type} {enc : TypeId × Value → H} {W : World} {base : Nat} {v : Value} {d : DataW H} {p : List MemPlace}
    (hv : Value.okWide Try.prog W .any base 27 v) (h : DataW.Trod enc Try.prog W 0 (fun _ => true) true 27 v d p) :
    ∃ ao n cap l, v = .slice ao n cap ∧ TV W ao n cap l ∧ n ≤ Rows.uptoBulk d ∧ ∀ i, (l.getD i []).length ≤ Rows.uptoBulk d := by
  obtain ⟨ao, n, cap, rfl⟩ := okWide_slice Try.underlying27 hv
  obtain ⟨fuel, hf⟩ := h
  have cf : Try.prog.cellsOf 25 = 1 := by kernel_rfl
  rcases Go.Deep.open_slice1 Try.underlying27 cf hf with ⟨hcs, _⟩ | ⟨a, len, cap', m, k, V, D, Pl, hcs, _, hl, hm, hmm, hx, hel⟩
  · simp [Value.cells] at hcs
    obtain ⟨rfl, rfl, rfl⟩ := hcs
    exact ⟨none, 0, 0, [], rfl, ⟨rfl, Nat.le_refl _, by omega, .inl rfl⟩, Nat.zero_le _, fun i => by simp⟩
  · simp [Value.cells] at hcs
    obtain ⟨rfl, rfl, rfl⟩ := hcs
    simp at hmm
    subst hmm
    unfold maxLen at hm
    have each : ∀ i, i < n → ∃ r : List Int, ∃ b m c, V i = .slice b m c ∧ BS W b m c r ∧ m ≤ Rows.uptoBulk (D i) := by
      intro i hi
      obtain ⟨h1, h2⟩ := hel i (by omega)
      obtain ⟨b, m, c, r, e, hs, hb⟩ := bytes_of h2
      exact ⟨r, b, m, c, e, hs, hb⟩
    obtain ⟨Rf, hR⟩ := choose_lt each
    obtain ⟨hx1, hx2⟩ := Prod.mk.inj hx
    refine ⟨some a, n, _, (List.range n).map Rf, rfl, ⟨by rw [List.length_map, List.length_range], by simpa using hl, by omega, ?_⟩, ?_, ?_⟩
    · rcases Nat.eq_zero_or_pos n with h0 | h0
      · exact .inl h0
      · obtain ⟨b, off, spot⟩ := a
        have hspot : spot = none := by simpa [Addr.add] using World.cell?_spot (hel 0 (by omega)).1
        subst hspot
        refine .inr ⟨b, off, rfl, fun i hi => ?_⟩
        have h1 := (hel i (by omega)).1
        obtain ⟨b2, m2, c2, e, hs, _⟩ := hR i hi
        rw [Addr.add_lit, e] at h1
        rw [range_get n i Rf [] hi]
        exact ⟨b2, m2, c2, h1, hs⟩
    · subst hx1
      have h1 := bulk_length ((List.range n).map D)
      rw [List.length_map, List.length_range] at h1
      simp only [Rows.uptoBulk]
      omega
    · intro i
      subst hx1
      rcases Nat.lt_or_ge i n with hi | hi
      · rw [range_get n i Rf [] hi]
        obtain ⟨b2, m2, c2, e, hs, hb⟩ := hR i hi
        rw [hs.len]
        have := bulk_mem ((List.range n).map D) (D i) (List.mem_map.2 ⟨i, List.mem_range.2 hi, rfl⟩)
        simp only [Rows.uptoBulk]
        omega
      · rw [List.getD_eq_getElem?_getD, List.getElem?_eq_none (by simpa using hi)]
        simp
theorem open_bytes {H : Type} {enc : TypeId × Value → H} {W : World} {base : Nat} {v : Value} {d : DataW H} {p : List MemPlace}
    (hv : Value.okWide Try.prog W .any base 25 v) (h : DataW.Trod enc Try.prog W 0 (fun _ => true) true 25 v d p) :
    ∃ ao n cap l, v = .slice ao n cap ∧ BS W ao n cap l ∧ n ≤ Rows.uptoBulk d := by
  obtain ⟨ao, n, cap, rfl⟩ := okWide_slice Try.underlying25 hv
  obtain ⟨fuel, hf⟩ := h
  exact bytes_of (by simpa [Value.cells] using hf)
set_option maxRecDepth 100000 in
theorem open_span {H : Type} {enc : TypeId × Value → H} {W : World} {base : Nat} {v : Value} {d : DataW H} {p : List MemPlace}
    (hv : Value.okWide Try.prog W .any base 34 v) (h : DataW.Trod enc Try.prog W 0 (fun _ => true) true 34 v d p) :
    ∃ x y, v = .agg #[.int .i64 x, .int .i64 y] := by
  obtain ⟨cs, rfl, hsz⟩ := okWide_struct Try.underlying34 hv
  obtain ⟨fuel, hf⟩ := h
  obtain ⟨y0, y1, kk, hy, hlen, g0, g1⟩ := trod_struct2 Try.underlying34 hf
  have c2 : Try.prog.cellsOf 34 = 2 := by kernel_rfl
  have ci : Try.prog.cellsOf 3 = 1 := by kernel_rfl
  rw [c2] at hsz
  obtain ⟨l⟩ := cs
  match l, hsz with
  | [v0, v1], _ =>
    simp [Value.cells, ci] at g0 g1
    obtain ⟨x0, hv0, _, _⟩ := DataW.trod_int Try.underlying3 g0
    obtain ⟨x1, hv1, _, _⟩ := DataW.trod_int Try.underlying3 g1
    obtain rfl : v0 = .int .i64 x0 := by simpa using hv0
    obtain rfl : v1 = .int .i64 x1 := by simpa using hv1
    exact ⟨x0, x1, rfl⟩
end Go.Proofs.Ytpdkdfgcnhcmkaa.aud
