/- How a slice of records that came in as an argument reads. -/
import Derived.Test.YtciblkmbkdhdiaaDoorRows
import Derived.Test.YtciblkmbkdhdiaaDoorLinPrint
import Derived.ProofKit
import Derived.OpenShut
import Derived.Deep.Strs
set_option linter.unusedVariables false
set_option linter.unusedSimpArgs false
namespace Go.Proofs.YtciblkmbkdhdiaaDoor.lin
open Go.ChangeShapes Go.WideShapes Go.ChangeAt Go.RowKit Go.Deep

theorem bulk_mem {H : Type} {x : DataW H} : ∀ {l : List (DataW H)}, x ∈ l → Rows.uptoBulk x ≤ Rows.uptoBulkAll l
  | [], h => by cases h
  | y :: l, h => by
    simp only [Rows.uptoBulkAll]
    rcases List.mem_cons.1 h with rfl | h
    · omega
    · have := bulk_mem h; omega
theorem bulk_texts {H : Type} (Sx : Nat → ByteArray) : ∀ l : List Nat, (tailText (l.map Sx)).length ≤ 3 * Rows.uptoBulkAll (l.map fun i => (.lit (.string (Sx i).data.toList) : DataW H))
  | [] => by simp [tailText]
  | i :: l => by
    have h1 := bulk_texts (H := H) Sx l
    have h2 : (tailText ((i :: l).map Sx)).length = 3 + (Sx i).data.toList.length + (tailText (l.map Sx)).length := by
      rw [show tailText ((i :: l).map Sx) = ([32, 59, 32] ++ (Sx i).data.toList) ++ tailText (l.map Sx) from rfl, List.length_append, List.length_append]
      rfl
    have h3 : Rows.uptoBulkAll ((i :: l).map fun i => (.lit (.string (Sx i).data.toList) : DataW H)) = ((Sx i).data.toList.length + 1) + Rows.uptoBulkAll (l.map fun i => (.lit (.string (Sx i).data.toList) : DataW H)) := by
      simp only [List.map_cons, Rows.uptoBulkAll, Rows.uptoBulk]
    rw [h2, h3]
    omega
theorem bulk_recs {H : Type} (R : Nat → RecT) (D : Nat → DataW H) : ∀ l : List Nat, (∀ i ∈ l, recMax (R i) ≤ 35 * Rows.uptoBulk (D i)) → ((l.map R).map recMax).sum ≤ 35 * Rows.uptoBulkAll (l.map D)
  | [], _ => by simp
  | i :: l, h => by
    have h1 := h i (by simp)
    have h2 := bulk_recs R D l (fun j hj => h j (by simp [hj]))
    simp only [List.map_cons, List.sum_cons, Rows.uptoBulkAll]
    omega
theorem bulk_len {H : Type} : ∀ l : List (DataW H), l.length ≤ Rows.uptoBulkAll l
  | [] => by simp [Rows.uptoBulkAll]
  | x :: r => by
    have := bulk_len r
    have h1 : 1 ≤ Rows.uptoBulk x := by
      cases x with
      | lit l => cases l <;> simp [Rows.uptoBulk]
      | nil => simp [Rows.uptoBulk]
      | ptr d => simp [Rows.uptoBulk]
      | slice elems spare => simp [Rows.uptoBulk]
      | agg parts => simp [Rows.uptoBulk]
      | iface t d => simp [Rows.uptoBulk]
      | map entries => simp [Rows.uptoBulk]
      | held h => simp [Rows.uptoBulk]
    simp only [Rows.uptoBulkAll, List.length_cons]
    omega

/-- The fields of a record. -/
theorem open_fields {H : Type} {enc : TypeId × Value → H} {W : World} {k : Nat} {fv : Value} {y : DataW H × List MemPlace} (h : DataW.trod enc Tryd.prog W 0 (fun _ => true) true k 28 [fv] = some y) :
    ∃ fs : List ByteArray, FV W fv fs ∧ (tailText fs).length ≤ 3 * Rows.uptoBulk y.1 ∧ fs.length ≤ Rows.uptoBulk y.1 ∧ ∀ f ∈ fs, f.size ≤ Rows.uptoBulk y.1 := by
  rcases open_strs Tryd.underlying28 Tryd.underlying9 (by kernel_rfl) h with ⟨hcs, rfl⟩ | ⟨a, len, cap, m, Sx, hcs, _, hl, hm, hmm, rfl, hx⟩
  · obtain rfl : fv = .slice none 0 0 := by simpa using hcs
    exact ⟨[], ⟨none, 0, rfl, fun h => by simp at h⟩, by simp [tailText], by simp, fun f hf => by cases hf⟩
  · obtain rfl : fv = .slice (some a) len cap := by simpa using hcs
    simp at hmm
    subst hmm
    refine ⟨(List.range len).map Sx, ⟨some a, _, by rw [List.length_map, List.length_range], fun h0 => ?_⟩, ?_, ?_, ?_⟩
    · obtain ⟨b, off, spot⟩ := a
      have hspot : spot = none := by simpa [Addr.add] using World.cell?_spot (hx 0 (by simp at h0; omega)).1
      subst hspot
      refine ⟨b, off, rfl, fun j x hj => ?_⟩
      rw [List.getElem?_map] at hj
      have hjl : j < len := by
        rcases Nat.lt_or_ge j len with h' | h'
        · exact h'
        · rw [List.getElem?_eq_none (by simpa using h')] at hj; cases hj
      rw [List.getElem?_range hjl] at hj
      obtain rfl : Sx j = x := by simpa using hj
      rw [← Addr.add_lit]
      exact (hx j (by omega)).1
    · have := bulk_texts (H := H) Sx (List.range len)
      simp only [Rows.uptoBulk]
      omega
    · have := bulk_len ((List.range len).map fun i => (.lit (.string (Sx i).data.toList) : DataW H))
      simp only [List.length_map, List.length_range] at this ⊢
      simp only [Rows.uptoBulk]
      omega
    · intro f hf
      obtain ⟨i, hi, rfl⟩ := List.mem_map.1 hf
      have := bulk_mem (List.mem_map.2 ⟨i, hi, rfl⟩ : (.lit (.string (Sx i).data.toList) : DataW H) ∈ (List.range len).map fun i => (.lit (.string (Sx i).data.toList) : DataW H))
      simp only [Rows.uptoBulk] at this ⊢
      rw [size_list] at this
      omega

set_option maxRecDepth 100000 in
theorem open_recs {H : Type} {enc : TypeId × Value → H} {W : World} {base : Nat} {v : Value} {d : DataW H} {p : List MemPlace}
    (hv : Value.okWide Tryd.prog W .any base 22 v) (h : DataW.Trod enc Tryd.prog W 0 (fun _ => true) true 22 v d p) :
    ∃ rs : List RecT, InRecs W v rs ∧ rs.length ≤ Rows.uptoBulk d ∧ (∀ r ∈ rs, r.2.2.length ≤ Rows.uptoBulk d ∧ ∀ f ∈ r.2.2, f.size ≤ Rows.uptoBulk d) ∧ (rs.map recMax).sum ≤ 35 * Rows.uptoBulk d := by
  obtain ⟨ao, n, cap, rfl⟩ := okWide_slice Tryd.underlying22 hv
  obtain ⟨fuel, hf⟩ := h
  rcases open_slice Tryd.underlying22 hf with ⟨hcs, _⟩ | ⟨a, len, cap', m, k, D, Pl, hcs, _, hl, hm, hmm, hx, hel⟩
  · simp [Value.cells] at hcs
    obtain ⟨rfl, rfl, rfl⟩ := hcs
    exact ⟨[], ⟨none, 0, rfl, fun h => by simp at h⟩, by simp, fun r hr => (by cases hr), by simp⟩
  · simp [Value.cells] at hcs
    obtain ⟨rfl, rfl, rfl⟩ := hcs
    simp at hmm
    subst hmm
    have c3 : Tryd.prog.cellsOf 42 = 3 := by kernel_rfl
    have each : ∀ i, i < n → ∃ r : RecT, W.cell? (a.add (i * 3)) = some (.int .i64 r.1) ∧ W.cell? (a.add (i * 3 + 1)) = some (.int .i64 r.2.1) ∧ (∃ fv, W.cell? (a.add (i * 3 + 1 + 1)) = some fv ∧ FV W fv r.2.2) ∧ recMax r ≤ 35 * Rows.uptoBulk (D i) ∧ r.2.2.length ≤ Rows.uptoBulk (D i) ∧ ∀ f ∈ r.2.2, f.size ≤ Rows.uptoBulk (D i) := by
      intro i hi
      obtain ⟨cs', h1, h2⟩ := hel i (by omega)
      rw [c3] at h1
      obtain ⟨_, hlen, hcell⟩ := World.cells?_some h1
      obtain ⟨y0, y1, y2, kk, hy, _, g0, g1, g2⟩ := trod_struct3 Tryd.underlying42 h2
      match cs', hlen with
      | [v0, v1, v2], _ =>
        have e0 := hcell 0 (by omega)
        have e1 := hcell 1 (by omega)
        have e2 := hcell 2 (by omega)
        rw [Go.Deep.add_add] at e0 e1 e2
        have ci : Tryd.prog.cellsOf 3 = 1 := by kernel_rfl
        have cf : Tryd.prog.cellsOf 28 = 1 := by kernel_rfl
        simp [ci] at g0 g1
        simp [cf] at g2
        obtain ⟨x0, hv0, hy0, _⟩ := DataW.trod_int Tryd.underlying3 g0
        obtain ⟨x1, hv1, hy1, _⟩ := DataW.trod_int Tryd.underlying3 g1
        obtain ⟨fs, hF, hb1, hb2, hb3⟩ := open_fields g2
        obtain rfl : v0 = .int .i64 x0 := by simpa using hv0
        obtain rfl : v1 = .int .i64 x1 := by simpa using hv1
        simp only [Prod.mk.injEq] at hy
        have hD : Rows.uptoBulk (D i) = Rows.uptoBulk y2.1 + 3 := by
          rw [hy.1, hy0, hy1]
          simp only [Rows.uptoBulk, Rows.uptoBulkAll]
          omega
        refine ⟨(x0, x1, fs), by simpa using e0, by simpa using e1, ⟨v2, by simpa [Nat.add_assoc] using e2, hF⟩, ?_, ?_, ?_⟩
        · unfold recMax; simp only []; omega
        · simp only []; omega
        · intro f hf; have := hb3 f hf; omega
    obtain ⟨R, hR⟩ := choose_lt each
    obtain ⟨hxd, _⟩ := Prod.mk.inj hx
    have hdb : Rows.uptoBulkAll ((List.range n).map D) + 1 ≤ Rows.uptoBulk d := by
      rw [hxd]
      simp only [Rows.uptoBulk]
      omega
    have hmem : ∀ i, i < n → Rows.uptoBulk (D i) ≤ Rows.uptoBulkAll ((List.range n).map D) := fun i hi => bulk_mem (List.mem_map.2 ⟨i, List.mem_range.2 hi, rfl⟩)
    refine ⟨(List.range n).map R, ⟨some a, _, by rw [List.length_map, List.length_range], fun h0 => ?_⟩, ?_, ?_, ?_⟩
    · obtain ⟨b, off, spot⟩ := a
      have hn0 : 0 < n := by simpa using h0
      have hspot : spot = none := by simpa [Addr.add] using World.cell?_spot (hR 0 hn0).1
      subst hspot
      refine ⟨b, off, rfl, fun i r hi => ?_⟩
      rw [List.getElem?_map] at hi
      have hil : i < n := by
        rcases Nat.lt_or_ge i n with h' | h'
        · exact h'
        · rw [List.getElem?_eq_none (by simpa using h')] at hi; cases hi
      rw [List.getElem?_range hil] at hi
      obtain rfl : R i = r := by simpa using hi
      obtain ⟨q1, q2, ⟨fv, q3, q4⟩, _⟩ := hR i hil
      rw [Addr.add_lit] at q1 q2 q3
      exact ⟨q1, q2, fv, q3, q4⟩
    · have := bulk_len ((List.range n).map D)
      simp only [List.length_map, List.length_range] at this ⊢
      omega
    · intro r hr
      obtain ⟨i, hi, rfl⟩ := List.mem_map.1 hr
      have hil := List.mem_range.1 hi
      obtain ⟨_, _, _, _, q5, q6⟩ := hR i hil
      have := hmem i hil
      exact ⟨by omega, fun f hf => by have := q6 f hf; omega⟩
    · have := bulk_recs R D (List.range n) (fun i hi => (hR i (List.mem_range.1 hi)).2.2.2.1)
      omega
end Go.Proofs.YtciblkmbkdhdiaaDoor.lin
