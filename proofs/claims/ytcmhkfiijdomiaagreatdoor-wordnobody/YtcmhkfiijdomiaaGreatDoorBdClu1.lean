/- Texts that the proof leans on, one behind the other. -/
import Derived.Test.YtcmhkfiijdomiaaGreatDoorBdPrp2
import Derived.ProofKit
import Derived.OpenShut
import Derived.Deep.DeepHandedRow
import Derived.ChangeMaps5
import Derived.Deep.Strs

section
/- How slices of numbers that came in as arguments read. -/
set_option linter.unusedVariables false
set_option linter.unusedSimpArgs false
namespace Go.Proofs.YtcmhkfiijdomiaaGreatDoor.clu
open Go.ChangeShapes Go.WideShapes Go.ChangeAt Go.RowKit Go.Deep
open Go.Proofs.YtcmhkfiijdomiaaGreatDoor.prp (IV okI)

/-- The argument v reads as the numbers l. -/
def ArgC (W : World) (v : Value) (l : List Int) : Prop := ∃ ao cap, v = .slice ao l.length cap ∧ (0 < l.length → ∃ b o, ao = some ⟨b, o, none⟩ ∧ ∀ j, j < l.length → W.cell? ⟨b, o + j, none⟩ = some (.int .i64 (l.getD j 0))) ∧ (∀ r ∈ l, okI r) ∧ l.length ≤ cap ∧ cap ≤ 9223372036854775807 ∧ (ao = none → cap = 0)
set_option maxRecDepth 100000 in
theorem open_ints {H : Type} {enc : TypeId × Value → H} {W : World} {base : Nat} {v : Value} {d : DataW H} {p : List MemPlace}
    (hv : Value.okWide Tryz.prog W .any base 22 v) (h : DataW.Trod enc Tryz.prog W 0 (fun _ => true) true 22 v d p) :
    ∃ l : List Int, ArgC W v l := by
  obtain ⟨ao, n, cap, rfl⟩ := okWide_slice Tryz.underlying22 hv
  obtain ⟨fuel, hf⟩ := h
  rcases open_slice Tryz.underlying22 hf with ⟨hcs, _⟩ | ⟨a, len, cap', m, k, D, Pl, hcs, _, hl, hm, hmm, hx, hel⟩
  · simp [Value.cells] at hcs
    obtain ⟨rfl, rfl, rfl⟩ := hcs
    exact ⟨[], none, 0, rfl, fun h => by simp at h, fun r h => (by cases h), by simp, by omega, fun _ => rfl⟩
  · simp [Value.cells] at hcs
    obtain ⟨rfl, rfl, rfl⟩ := hcs
    simp at hmm
    subst hmm
    have c1 : Tryz.prog.cellsOf 3 = 1 := by kernel_rfl
    have each : ∀ i, i < n → ∃ r : Int, W.cell? (a.add i) = some (.int .i64 r) ∧ okI r := by
      intro i hi
      obtain ⟨cs', h1, h2⟩ := hel i (by omega)
      rw [c1] at h1
      obtain ⟨_, hlen, hcell⟩ := World.cells?_some h1
      match cs', hlen with
      | [v0], _ =>
        have e0 := hcell 0 (by omega)
        rw [Go.Deep.add_add] at e0
        obtain ⟨x0, hv0, hy0, hw0⟩ := DataW.trod_int Tryz.underlying3 h2
        obtain rfl : v0 = .int .i64 x0 := by simpa using hv0
        exact ⟨x0, by simpa using e0, by simpa [okI, Lit.wf, IntKind.min, IntKind.max, IntKind.signed, IntKind.bits] using hw0⟩
    obtain ⟨Rf, hR⟩ := choose_lt each
    unfold maxLen at hm
    refine ⟨(List.range n).map Rf, some a, _, by rw [List.length_map, List.length_range], fun h00 => ?_, fun r hr => ?_, by simpa using hl, by omega, fun e => by cases e⟩
    · have h0 : 0 < n := by simpa using h00
      obtain ⟨b, off, spot⟩ := a
      have hspot : spot = none := by simpa [Addr.add] using World.cell?_spot (hR 0 h0).1
      subst hspot
      refine ⟨b, off, rfl, fun i hi => ?_⟩
      have hil : i < n := by simpa using hi
      have q1 := (hR i hil).1
      rw [Addr.add_lit] at q1
      rw [q1, List.getD_eq_getElem?_getD, List.getElem?_map, List.getElem?_range hil]
      rfl
    · obtain ⟨i, hi, rfl⟩ := List.mem_map.1 hr
      exact (hR i (List.mem_range.1 hi)).2
theorem ArgC.iv {W : World} {v : Value} {l : List Int} (h : ArgC W v l) : IV W v l := by
  obtain ⟨ao, cap, rfl, h, _⟩ := h
  exact ⟨ao, cap, rfl, h⟩
/-- The argument's first n numbers. -/
theorem ArgC.take {W : World} {ao : Option Addr} {cap len : Nat} {l : List Int} (h : ArgC W (.slice ao len cap) l) (n : Nat) (hn : n ≤ l.length) : IV W (.slice ao n cap) (l.take n) := by
  obtain ⟨a, c, e, hc, _⟩ := h
  cases e
  have hl : (l.take n).length = n := by rw [List.length_take]; omega
  refine ⟨_, _, by rw [hl], fun h0 => ?_⟩
  obtain ⟨b, o, e, hx⟩ := hc (by omega)
  refine ⟨b, o, e, fun j hj => ?_⟩
  rw [hx j (by omega), List.getD_eq_getElem?_getD, List.getD_eq_getElem?_getD, List.getElem?_take_of_lt (by omega)]
end Go.Proofs.YtcmhkfiijdomiaaGreatDoor.clu
end
