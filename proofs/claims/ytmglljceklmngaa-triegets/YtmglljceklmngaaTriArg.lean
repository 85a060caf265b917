/- How a slice of entries that came in as an argument reads. -/
import Derived.Test.YtmglljceklmngaaRows
import Derived.Test.YtmglljceklmngaaTriCalls
import Derived.ProofKit
import Derived.OpenShut
import Derived.Deep.Strs
set_option linter.unusedVariables false
set_option linter.unusedSimpArgs false
namespace Go.Proofs.Ytmglljceklmngaa.tri
open Go.ChangeShapes Go.WideShapes Go.ChangeAt Go.RowKit Go.Deep

set_option maxRecDepth 100000 in
theorem open_entries {H : Type} {enc : TypeId × Value → H} {W : World} {base : Nat} {v : Value} {d : DataW H} {p : List MemPlace}
    (hv : Value.okWide Try.prog W .any base 22 v) (h : DataW.Trod enc Try.prog W 0 (fun _ => true) true 22 v d p) :
    ∃ l : List E, ArgE W v l := by
  obtain ⟨ao, n, cap, rfl⟩ := okWide_slice Try.underlying22 hv
  obtain ⟨fuel, hf⟩ := h
  rcases open_slice Try.underlying22 hf with ⟨hcs, _⟩ | ⟨a, len, cap', m, k, D, Pl, hcs, _, hl, hm, hmm, hx, hel⟩
  · simp [Value.cells] at hcs
    obtain ⟨rfl, rfl, rfl⟩ := hcs
    exact ⟨[], none, 0, rfl, EV.nil _ _, fun _ => rfl, by simp, by omega⟩
  · simp [Value.cells] at hcs
    obtain ⟨rfl, rfl, rfl⟩ := hcs
    simp at hmm
    subst hmm
    have c3 : Try.prog.cellsOf 27 = 3 := by kernel_rfl
    have each : ∀ i, i < n → ∃ r : E, W.cell? (a.add (i * 3)) = some (.int .i64 r.1) ∧ W.cell? (a.add (i * 3 + 1)) = some (.int .i64 r.2.1) ∧ W.cell? (a.add (i * 3 + 2)) = some (.int .i64 r.2.2) := by
      intro i hi
      obtain ⟨cs', h1, h2⟩ := hel i (by omega)
      rw [c3] at h1
      obtain ⟨_, hlen, hcell⟩ := World.cells?_some h1
      obtain ⟨y0, y1, y2, kk, hy, _, g0, g1, g2⟩ := trod_struct3 Try.underlying27 h2
      match cs', hlen with
      | [v0, v1, v2], _ =>
        have e0 := hcell 0 (by omega)
        have e1 := hcell 1 (by omega)
        have e2 := hcell 2 (by omega)
        rw [Go.Deep.add_add] at e0 e1 e2
        have ci : Try.prog.cellsOf 3 = 1 := by kernel_rfl
        simp [ci] at g0 g1 g2
        obtain ⟨x0, hv0, hy0, _⟩ := DataW.trod_int Try.underlying3 g0
        obtain ⟨x1, hv1, hy1, _⟩ := DataW.trod_int Try.underlying3 g1
        obtain ⟨x2, hv2, hy2, _⟩ := DataW.trod_int Try.underlying3 g2
        obtain rfl : v0 = .int .i64 x0 := by simpa using hv0
        obtain rfl : v1 = .int .i64 x1 := by simpa using hv1
        obtain rfl : v2 = .int .i64 x2 := by simpa using hv2
        exact ⟨(x0, x1, x2), by simpa using e0, by simpa using e1, by simpa using e2⟩
    obtain ⟨Rf, hR⟩ := choose_lt each
    unfold maxLen at hm
    refine ⟨(List.range n).map Rf, some a, _, by rw [List.length_map, List.length_range], ?_, fun e => (by cases e), by simpa using hl, by omega⟩
    rcases Nat.eq_zero_or_pos n with h0 | h0
    · subst h0; exact EV.nil _ _
    · obtain ⟨b, off, spot⟩ := a
      have hspot : spot = none := by simpa [Addr.add] using World.cell?_spot (hR 0 h0).1
      subst hspot
      refine .inr ⟨b, off, rfl, fun i r hi => ?_⟩
      rw [List.getElem?_map] at hi
      have hil : i < n := by
        rcases Nat.lt_or_ge i n with h' | h'
        · exact h'
        · rw [List.getElem?_eq_none (by simpa using h')] at hi; cases hi
      rw [List.getElem?_range hil] at hi
      obtain rfl : Rf i = r := by simpa using hi
      obtain ⟨q1, q2, q3⟩ := hR i hil
      rw [Addr.add_lit] at q1 q2 q3
      exact ⟨q1, q2, q3⟩
end Go.Proofs.Ytmglljceklmngaa.tri
