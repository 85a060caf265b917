/- How a node that came in as an argument reads. -/
import Derived.Test.YtjbcapnpknbbaaaGreatRows
import Derived.Test.YtjbcapnpknbbaaaGreatBndNodMem
import Derived.ProofKit
import Derived.OpenShut
import Derived.Deep.Strs
set_option linter.unusedVariables false
set_option linter.unusedSimpArgs false
namespace Go.Proofs.YtjbcapnpknbbaaaGreat.nod
open Go.ChangeShapes Go.WideShapes Go.ChangeAt Go.RowKit Go.Deep
open Go.Proofs.YtjbcapnpknbbaaaGreat.rng (R RV)

theorem wf64 {x : Int} (h : (Lit.int .i64 x).wf = true) : I64 x := by
  simpa [Lit.wf, IntKind.min, IntKind.max, IntKind.signed, IntKind.bits, I64] using h
set_option maxRecDepth 100000 in
theorem open_set {H : Type} {enc : TypeId × Value → H} {W : World} {fuel : Nat} {v : Value} {x : DataW H × List MemPlace} (hf : DataW.trod enc Tryz.prog W 0 (fun _ => true) true fuel 22 [v] = some x) :
    ∃ (s : List R) (sa : Option Addr) (sc : Nat), v = .slice sa s.length sc ∧ RV W sa s ∧ (∀ x, sa = some x → s ≠ [] → x.block < W.heap.size) ∧ s.length ≤ sc ∧ sc ≤ maxLen ∧ (sa = none → sc = 0) := by
  rcases open_slice Tryz.underlying22 hf with ⟨hcs, _⟩ | ⟨a, len, cap', m, k, D, Pl, hcs, _, hl, hm, hmm, hx, hel⟩
  · obtain rfl : v = .slice none 0 0 := by simpa using hcs
    exact ⟨[], none, 0, rfl, .inl rfl, fun x e => (by cases e), by simp, by simp, fun _ => rfl⟩
  · obtain rfl : v = .slice (some a) len cap' := by simpa using hcs
    simp at hmm
    subst hmm
    have c2 : Tryz.prog.cellsOf 44 = 2 := by kernel_rfl
    have each : ∀ i, i < len → ∃ r : R, W.cell? (a.add (i * 2)) = some (.int .i64 r.1) ∧ W.cell? (a.add (i * 2 + 1)) = some (.int .i64 r.2) := by
      intro i hi
      obtain ⟨cs', h1, h2⟩ := hel i (by omega)
      rw [c2] at h1
      obtain ⟨_, hlen, hcell⟩ := World.cells?_some h1
      obtain ⟨y0, y1, kk, hy, _, g0, g1⟩ := trod_struct2 Tryz.underlying44 h2
      match cs', hlen with
      | [v0, v1], _ =>
        have e0 := hcell 0 (by omega)
        have e1 := hcell 1 (by omega)
        rw [Go.Deep.add_add] at e0 e1
        have ci : Tryz.prog.cellsOf 3 = 1 := by kernel_rfl
        simp [ci] at g0 g1
        obtain ⟨x0, hv0, hy0, _⟩ := DataW.trod_int Tryz.underlying3 g0
        obtain ⟨x1, hv1, hy1, _⟩ := DataW.trod_int Tryz.underlying3 g1
        obtain rfl : v0 = .int .i64 x0 := by simpa using hv0
        obtain rfl : v1 = .int .i64 x1 := by simpa using hv1
        exact ⟨(x0, x1), by simpa using e0, by simpa using e1⟩
    obtain ⟨Rf, hR⟩ := choose_lt each
    refine ⟨(List.range len).map Rf, some a, m, by rw [List.length_map, List.length_range], ?_, ?_, by simpa using hl, hm, fun e => (by cases e)⟩
    · rcases Nat.eq_zero_or_pos len with h0 | h0
      · subst h0; exact .inl rfl
      · obtain ⟨b, off, spot⟩ := a
        have hspot : spot = none := by simpa [Addr.add] using World.cell?_spot (hR 0 h0).1
        subst hspot
        refine .inr ⟨b, off, rfl, fun i r hi => ?_⟩
        rw [List.getElem?_map] at hi
        have hil : i < len := by
          rcases Nat.lt_or_ge i len with h' | h'
          · exact h'
          · rw [List.getElem?_eq_none (by simpa using h')] at hi; cases hi
        rw [List.getElem?_range hil] at hi
        obtain rfl : Rf i = r := by simpa using hi
        obtain ⟨q1, q2⟩ := hR i hil
        rw [Addr.add_lit] at q1 q2
        exact ⟨q1, q2⟩
    · intro x e hne
      cases e
      have h0 : 0 < len := by
        rcases Nat.eq_zero_or_pos len with h0 | h0
        · subst h0; simp at hne
        · exact h0
      have := World.block_lt_of_cell? W _ (hR 0 h0).1
      simpa [Addr.add] using this

set_option maxRecDepth 100000 in
theorem open_node' {H : Type} {enc : TypeId × Value → H} {W : World} : ∀ (fuel : Nat) (cs : List Value) (x : DataW H × List MemPlace), DataW.trod enc Tryz.prog W 0 (fun _ => true) true fuel 25 cs = some x →
    ∃ (t : Nd) (c0 c1 c2 c3 c4 c5 c6 c7 : Value), cs = [c0, c1, c2, c3, c4, c5, c6, c7] ∧ NV W.heap.size W t (.agg #[c0, c1, c2, c3, c4, c5, c6, c7]) := by
  intro fuel
  induction fuel using Nat.strongRecOn with
  | _ fuel ih =>
  intro cs x h
  obtain ⟨xs, n, hn, rfl, hl, hlen, hf⟩ := DataW.trod_struct Tryz.underlying25 h
  have c8 : Tryz.prog.cellsOf 25 = 8 := by kernel_rfl
  rw [c8] at hl
  match cs, hl with
  | [c0, c1, c2, c3, c4, c5, c6, c7], _ =>
  match xs, hlen with
  | [y0, y1, y2, y3, y4, y5, y6, y7], _ =>
  have ci : Tryz.prog.cellsOf 3 = 1 := by kernel_rfl
  have cb : Tryz.prog.cellsOf 4 = 1 := by kernel_rfl
  have cs' : Tryz.prog.cellsOf 9 = 1 := by kernel_rfl
  have cr : Tryz.prog.cellsOf 22 = 1 := by kernel_rfl
  have ck : Tryz.prog.cellsOf 23 = 1 := by kernel_rfl
  have g0 := hf 0 _ rfl
  have g1 := hf 1 _ rfl
  have g2 := hf 2 _ rfl
  have g3 := hf 3 _ rfl
  have g4 := hf 4 _ rfl
  have g5 := hf 5 _ rfl
  have g6 := hf 6 _ rfl
  have g7 := hf 7 _ rfl
  simp [ci, cb, cs', cr, ck] at g0 g1 g2 g3 g4 g5 g6 g7
  obtain ⟨x0, hv0, _, w0⟩ := DataW.trod_int Tryz.underlying3 g0
  obtain ⟨x1, hv1, _, w1⟩ := DataW.trod_int Tryz.underlying3 g1
  obtain ⟨x2, hv2, _, w2⟩ := DataW.trod_int Tryz.underlying3 g2
  obtain ⟨x3, hv3, _, w3⟩ := DataW.trod_int Tryz.underlying3 g3
  obtain ⟨x4, hv4, _⟩ := DataW.trod_bool Tryz.underlying4 g4
  obtain ⟨x5, hv5, _, w5⟩ := DataW.trod_string Tryz.underlying9 g5
  obtain ⟨s, sa, sc, hv6, hs⟩ := open_set g6
  obtain rfl : c0 = .int .i64 x0 := by simpa using hv0
  obtain rfl : c1 = .int .i64 x1 := by simpa using hv1
  obtain rfl : c2 = .int .i64 x2 := by simpa using hv2
  obtain rfl : c3 = .int .i64 x3 := by simpa using hv3
  obtain rfl : c4 = .bool x4 := by simpa using hv4
  obtain rfl : c5 = .string x5 := by simpa using hv5
  subst hv6
  rcases DataW.trod_slice Tryz.underlying23 g7 with ⟨hcs, _⟩ | ⟨a, len, cap, elems, rest, n', hn', hcs, _, _, hlc, hm, hlen', hel, hsp, _⟩
  · obtain rfl : c7 = .slice none 0 0 := by simpa using hcs
    exact ⟨.mk x0 x1 x2 x3 x4 x5 s [], _, _, _, _, _, _, _, _, rfl, NV.shut (ks := []) ⟨wf64 w0, wf64 w1, wf64 w2, wf64 w3⟩ w5 hs ⟨by simp, by simp, fun _ => rfl⟩ (.inl rfl)⟩
  · obtain rfl : c7 = .slice (some a) len cap := by simpa using hcs
    rcases Nat.eq_zero_or_pos len with h0 | h0
    · subst h0
      exact ⟨.mk x0 x1 x2 x3 x4 x5 s [], _, _, _, _, _, _, _, .slice (some a) 0 cap, rfl, NV.shut (ks := []) ⟨wf64 w0, wf64 w1, wf64 w2, wf64 w3⟩ w5 hs ⟨by simp, hm, fun e => (by cases e)⟩ (.inl rfl)⟩
    obtain ⟨ab, ao, asp⟩ := a
    have hspot : asp = none := by
      have h1 := hel 0 h0
      rw [c8] at h1
      rw [List.getElem?_eq_getElem (by omega : 0 < elems.length)] at h1
      cases hc : W.cells? 0 ((⟨ab, ao, asp⟩ : Addr).add (0 * 8)) 8 with
      | none => rw [hc] at h1; cases h1
      | some cs'' =>
        rw [hc] at h1
        obtain ⟨t, d0, d1, d2, d3, d4, d5, d6, d7, e, hnv⟩ := ih n' (by omega) cs'' _ h1
        obtain ⟨_, _, hcell⟩ := World.cells?_some hc
        subst e
        have e0 := hcell 0 (by simp)
        simpa [Addr.add] using World.cell?_spot e0
    subst hspot
    have each : ∀ i, i < len → ∃ t : Nd, ∃ v, At8 W ab (ao + i * 8) v ∧ NV W.heap.size W t v := by
      intro i hi
      have h1 := hel i hi
      rw [c8] at h1
      have hi' : i < elems.length := by omega
      rw [List.getElem?_eq_getElem hi'] at h1
      cases hc : W.cells? 0 ((⟨ab, ao, none⟩ : Addr).add (i * 8)) 8 with
      | none => rw [hc] at h1; cases h1
      | some cs'' =>
        rw [hc] at h1
        obtain ⟨t, d0, d1, d2, d3, d4, d5, d6, d7, e, hnv⟩ := ih n' (by omega) cs'' _ h1
        obtain ⟨_, _, hcell⟩ := World.cells?_some hc
        subst e
        have e0 := hcell 0 (by simp)
        have e1 := hcell 1 (by simp)
        have e2 := hcell 2 (by simp)
        have e3 := hcell 3 (by simp)
        have e4 := hcell 4 (by simp)
        have e5 := hcell 5 (by simp)
        have e6 := hcell 6 (by simp)
        have e7 := hcell 7 (by simp)
        rw [Go.Deep.add_add, Addr.add_lit] at e0 e1 e2 e3 e4 e5 e6 e7
        exact ⟨t, _, ⟨d0, d1, d2, d3, d4, d5, d6, d7, rfl, by simpa using e0, by simpa [Nat.add_assoc] using e1, by simpa [Nat.add_assoc] using e2, by simpa [Nat.add_assoc] using e3, by simpa [Nat.add_assoc] using e4, by simpa [Nat.add_assoc] using e5, by simpa [Nat.add_assoc] using e6, by simpa [Nat.add_assoc] using e7⟩, hnv⟩
    obtain ⟨tf, hT⟩ := choose_lt each
    refine ⟨.mk x0 x1 x2 x3 x4 x5 s ((List.range len).map tf), _, _, _, _, _, _, _, .slice (some ⟨ab, ao, none⟩) len cap, rfl, ?_⟩
    have hlr : ((List.range len).map tf).length = len := by simp
    have := NV.shut (k := x0) (m := x1) (a := x2) (b := x3) (g := x4) (n := x5) (s := s) (ks := (List.range len).map tf) (sa := sa) (sc := sc) (ao := some ⟨ab, ao, none⟩) (cap := cap) (B := W.heap.size) (w := W) ⟨wf64 w0, wf64 w1, wf64 w2, wf64 w3⟩ w5 hs ⟨by rw [hlr]; exact hlc, hm, fun e => (by cases e)⟩ ?_
    · rw [hlr] at this; exact this
    · obtain ⟨v0, h8, _⟩ := hT 0 h0
      refine .inr ⟨ab, ao, rfl, ?_, fun i t hi => ?_⟩
      · obtain ⟨_, _, _, _, _, _, _, _, _, hz, _⟩ := h8
        exact World.block_lt_of_cell? W _ hz
      · rw [List.getElem?_map] at hi
        have hil : i < len := by
          rcases Nat.lt_or_ge i len with h' | h'
          · exact h'
          · rw [List.getElem?_eq_none (by simpa using h')] at hi; cases hi
        rw [List.getElem?_range hil] at hi
        obtain rfl : tf i = t := by simpa using hi
        exact hT i hil

set_option maxRecDepth 100000 in
theorem open_node {H : Type} {enc : TypeId × Value → H} {W : World} {base : Nat} {v : Value} {d : DataW H} {p : List MemPlace}
    (hv : Value.okWide Tryz.prog W .any base 25 v) (h : DataW.Trod enc Tryz.prog W 0 (fun _ => true) true 25 v d p) :
    ∃ t : Nd, NV W.heap.size W t v := by
  obtain ⟨fuel, hf⟩ := h
  obtain ⟨t, c0, c1, c2, c3, c4, c5, c6, c7, e, hn⟩ := open_node' fuel _ _ hf
  obtain ⟨cs, rfl, _⟩ := okWide_struct Tryz.underlying25 hv
  have hvv : cs = #[c0, c1, c2, c3, c4, c5, c6, c7] := by
    have : cs.toList = [c0, c1, c2, c3, c4, c5, c6, c7] := by simpa [Value.cells] using e
    exact Array.toList_inj.1 this
  subst hvv
  exact ⟨t, hn⟩
end Go.Proofs.YtjbcapnpknbbaaaGreat.nod
