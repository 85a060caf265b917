/- Texts that the proof leans on, one behind the other. -/
import Derived.Test.YtjbcapnpknbbaaaGreatNodArg
import Derived.Test.YtjbcapnpknbbaaaGreatLowPl2
import Derived.SizedLaws

section
/- How a node that came in as an argument reads, and that its sets lie within memory's reach. -/
set_option linter.unusedVariables false
set_option linter.unusedSimpArgs false
namespace Go.Proofs.YtjbcapnpknbbaaaGreat.low
open Go.ChangeShapes Go.WideShapes Go.ChangeAt Go.RowKit Go.Deep nod
open Go.Proofs.YtjbcapnpknbbaaaGreat.rng (R RV)

theorem wall_mem {H : Type} {P : Program} {e : TypeId} {d : DataW H} {q : Nat} : ∀ {l : List (DataW H)}, d ∈ l → q ∈ d.weights P e → q ∈ DataW.weightsAll P e l
  | [], h, _ => by cases h
  | x :: l, h, hq => by
    rw [DataW.weightsAll]
    rcases List.mem_cons.1 h with rfl | h
    · exact List.mem_append_left _ hq
    · exact List.mem_append_right _ (wall_mem h hq)
theorem setsL_of : ∀ {ks : List Nd}, (∀ t ∈ ks, setsN t) → setsL ks
  | [], _ => by rw [setsL]; trivial
  | x :: ks, h => by rw [setsL]; exact ⟨h x (by simp), setsL_of fun t ht => h t (by simp [ht])⟩
set_option maxRecDepth 100000 in
theorem open_short' {H : Type} {enc : TypeId × Value → H} {W : World} : ∀ (fuel : Nat) (cs : List Value) (x : DataW H × List MemPlace), DataW.trod enc Tryz.prog W 0 (fun _ => true) true fuel 25 cs = some x →
    ∃ (t : Nd) (c0 c1 c2 c3 c4 c5 c6 c7 : Value), cs = [c0, c1, c2, c3, c4, c5, c6, c7] ∧ NV W.heap.size W t (.agg #[c0, c1, c2, c3, c4, c5, c6, c7]) ∧ ((∀ q ∈ x.1.weights Tryz.prog 25, q ≤ reachBytes) → setsN t) := by
  intro fuel
  induction fuel using Nat.strongRecOn with
  | _ fuel ih =>
  intro cs x h
  obtain ⟨xs, n, hn, rfl, hl, hlen, hf⟩ := DataW.trod_struct Tryz.underlying25 h
  have c8 : Tryz.prog.cellsOf 25 = 8 := by kernel_rfl
  rw [c8] at hl
  match cs, hl with
  | [c0, c1, c2, c3, c4, c5, c6, c7], _ =>
  match xs, hlen with
  | [y0, y1, y2, y3, y4, y5, y6, y7], _ =>
  have ci : Tryz.prog.cellsOf 3 = 1 := by kernel_rfl
  have cb : Tryz.prog.cellsOf 4 = 1 := by kernel_rfl
  have cs' : Tryz.prog.cellsOf 9 = 1 := by kernel_rfl
  have cr : Tryz.prog.cellsOf 22 = 1 := by kernel_rfl
  have ck : Tryz.prog.cellsOf 23 = 1 := by kernel_rfl
  have g0 := hf 0 _ rfl
  have g1 := hf 1 _ rfl
  have g2 := hf 2 _ rfl
  have g3 := hf 3 _ rfl
  have g4 := hf 4 _ rfl
  have g5 := hf 5 _ rfl
  have g6 := hf 6 _ rfl
  have g7 := hf 7 _ rfl
  simp [ci, cb, cs', cr, ck] at g0 g1 g2 g3 g4 g5 g6 g7
  obtain ⟨x0, hv0, _, w0⟩ := DataW.trod_int Tryz.underlying3 g0
  obtain ⟨x1, hv1, _, w1⟩ := DataW.trod_int Tryz.underlying3 g1
  obtain ⟨x2, hv2, _, w2⟩ := DataW.trod_int Tryz.underlying3 g2
  obtain ⟨x3, hv3, _, w3⟩ := DataW.trod_int Tryz.underlying3 g3
  obtain ⟨x4, hv4, _⟩ := DataW.trod_bool Tryz.underlying4 g4
  obtain ⟨x5, hv5, hy5, w5⟩ := DataW.trod_string Tryz.underlying9 g5
  obtain ⟨s, sa, sc, hv6, hs⟩ := open_set g6
  obtain rfl : c0 = .int .i64 x0 := by simpa using hv0
  obtain rfl : c1 = .int .i64 x1 := by simpa using hv1
  obtain rfl : c2 = .int .i64 x2 := by simpa using hv2
  obtain rfl : c3 = .int .i64 x3 := by simpa using hv3
  obtain rfl : c4 = .bool x4 := by simpa using hv4
  obtain rfl : c5 = .string x5 := by simpa using hv5
  subst hv6
  have hname : (∀ q ∈ (DataW.agg (List.map (fun y : DataW H × List MemPlace => y.1) [y0, y1, y2, y3, y4, y5, y6, y7])).weights Tryz.prog 25, q ≤ reachBytes) → s.length ≤ 8796093021952 := fun hq => by
    rcases DataW.trod_slice Tryz.underlying22 g6 with ⟨hcs, _⟩ | ⟨a, len, cap, elems, rest, n', hn', hcs, hy6, _, hlc, hm, hlen', hel, hsp, _⟩
    · have : s.length = 0 := by simp at hcs; first | exact hcs.2.1 | simp [hcs.2.1] | exact congrArg List.length hcs.2.1
      omega
    · have hl : s.length = len := by simp at hcs; first | exact hcs.2.1 | simp [hcs.2.1] | exact congrArg List.length hcs.2.1
      have h1 := hq ((elems.length + rest.length) * Tryz.prog.bytesOf 44) (by
        rw [DataW.weights, Tryz.underlying25]
        exact DataW.weights_mem_each (j := 6) (t := 22) (d := y6.1) rfl rfl _ (by rw [hy6]; simp [DataW.weights, Tryz.underlying22]))
      rw [show Tryz.prog.bytesOf 44 = 16 by kernel_rfl] at h1
      unfold reachBytes at h1
      omega
  rcases DataW.trod_slice Tryz.underlying23 g7 with ⟨hcs, _⟩ | ⟨a, len, cap, elems, rest, n', hn', hcs, hy7, _, hlc, hm, hlen', hel, hsp, _⟩
  · obtain rfl : c7 = .slice none 0 0 := by simpa using hcs
    exact ⟨.mk x0 x1 x2 x3 x4 x5 s [], _, _, _, _, _, _, _, _, rfl, NV.shut (ks := []) ⟨wf64 w0, wf64 w1, wf64 w2, wf64 w3⟩ w5 hs ⟨by simp, by simp, fun _ => rfl⟩ (.inl rfl), fun hq => by rw [setsN, setsL]; exact ⟨hname hq, trivial⟩⟩
  · obtain rfl : c7 = .slice (some a) len cap := by simpa using hcs
    rcases Nat.eq_zero_or_pos len with h0 | h0
    · subst h0
      exact ⟨.mk x0 x1 x2 x3 x4 x5 s [], _, _, _, _, _, _, _, .slice (some a) 0 cap, rfl, NV.shut (ks := []) ⟨wf64 w0, wf64 w1, wf64 w2, wf64 w3⟩ w5 hs ⟨by simp, hm, fun e => (by cases e)⟩ (.inl rfl), fun hq => by rw [setsN, setsL]; exact ⟨hname hq, trivial⟩⟩
    obtain ⟨ab, ao, asp⟩ := a
    have hspot : asp = none := by
      have h1 := hel 0 h0
      rw [c8] at h1
      rw [List.getElem?_eq_getElem (by omega : 0 < elems.length)] at h1
      cases hc : W.cells? 0 ((⟨ab, ao, asp⟩ : Addr).add (0 * 8)) 8 with
      | none => rw [hc] at h1; cases h1
      | some cs'' =>
        rw [hc] at h1
        obtain ⟨t, d0, d1, d2, d3, d4, d5, d6, d7, e, hnv, _⟩ := ih n' (by omega) cs'' _ h1
        obtain ⟨_, _, hcell⟩ := World.cells?_some hc
        subst e
        have e0 := hcell 0 (by simp)
        simpa [Addr.add] using World.cell?_spot e0
    subst hspot
    have each : ∀ i, i < len → ∃ t : Nd, (∃ v, At8 W ab (ao + i * 8) v ∧ NV W.heap.size W t v) ∧ ((∀ q ∈ y7.1.weights Tryz.prog 23, q ≤ reachBytes) → setsN t) := by
      intro i hi
      have h1 := hel i hi
      rw [c8] at h1
      have hi' : i < elems.length := by omega
      rw [List.getElem?_eq_getElem hi'] at h1
      cases hc : W.cells? 0 ((⟨ab, ao, none⟩ : Addr).add (i * 8)) 8 with
      | none => rw [hc] at h1; cases h1
      | some cs'' =>
        rw [hc] at h1
        obtain ⟨t, d0, d1, d2, d3, d4, d5, d6, d7, e, hnv, hsh⟩ := ih n' (by omega) cs'' _ h1
        obtain ⟨_, _, hcell⟩ := World.cells?_some hc
        subst e
        have e0 := hcell 0 (by simp)
        have e1 := hcell 1 (by simp)
        have e2 := hcell 2 (by simp)
        have e3 := hcell 3 (by simp)
        have e4 := hcell 4 (by simp)
        have e5 := hcell 5 (by simp)
        have e6 := hcell 6 (by simp)
        have e7 := hcell 7 (by simp)
        rw [Go.Deep.add_add, Addr.add_lit] at e0 e1 e2 e3 e4 e5 e6 e7
        exact ⟨t, ⟨_, ⟨d0, d1, d2, d3, d4, d5, d6, d7, rfl, by simpa using e0, by simpa [Nat.add_assoc] using e1, by simpa [Nat.add_assoc] using e2, by simpa [Nat.add_assoc] using e3, by simpa [Nat.add_assoc] using e4, by simpa [Nat.add_assoc] using e5, by simpa [Nat.add_assoc] using e6, by simpa [Nat.add_assoc] using e7⟩, hnv⟩, fun hq => hsh fun q hm => hq q (by
          rw [hy7, DataW.weights, Tryz.underlying23]
          exact List.mem_cons_of_mem _ (List.mem_append_left _ (wall_mem (List.mem_map.2 ⟨_, List.getElem_mem hi', rfl⟩) hm)))⟩
    obtain ⟨tf, hT⟩ := choose_lt each
    refine ⟨.mk x0 x1 x2 x3 x4 x5 s ((List.range len).map tf), _, _, _, _, _, _, _, .slice (some ⟨ab, ao, none⟩) len cap, rfl, ?_, fun hq => ?_⟩
    rotate_left
    · rw [setsN]
      refine ⟨hname hq, setsL_of fun t ht => ?_⟩
      obtain ⟨i, hi, rfl⟩ := List.mem_map.1 ht
      refine (hT i (List.mem_range.1 hi)).2 fun q hm => hq q ?_
      rw [DataW.weights, Tryz.underlying25]
      exact DataW.weights_mem_each (j := 7) (t := 23) (d := y7.1) rfl rfl q hm
    have hlr : ((List.range len).map tf).length = len := by simp
    have := NV.shut (k := x0) (m := x1) (a := x2) (b := x3) (g := x4) (n := x5) (s := s) (ks := (List.range len).map tf) (sa := sa) (sc := sc) (ao := some ⟨ab, ao, none⟩) (cap := cap) (B := W.heap.size) (w := W) ⟨wf64 w0, wf64 w1, wf64 w2, wf64 w3⟩ w5 hs ⟨by rw [hlr]; exact hlc, hm, fun e => (by cases e)⟩ ?_
    · rw [hlr] at this; exact this
    · obtain ⟨⟨v0, h8, _⟩, _⟩ := hT 0 h0
      refine .inr ⟨ab, ao, rfl, ?_, fun i t hi => ?_⟩
      · obtain ⟨_, _, _, _, _, _, _, _, _, hz, _⟩ := h8
        exact World.block_lt_of_cell? W _ hz
      · rw [List.getElem?_map] at hi
        have hil : i < len := by
          rcases Nat.lt_or_ge i len with h' | h'
          · exact h'
          · rw [List.getElem?_eq_none (by simpa using h')] at hi; cases hi
        rw [List.getElem?_range hil] at hi
        obtain rfl : tf i = t := by simpa using hi
        exact (hT i hil).1

set_option maxRecDepth 100000 in
theorem open_short {H : Type} {enc : TypeId × Value → H} {W : World} {base : Nat} {v : Value} {d : DataW H} {p : List MemPlace}
    (hv : Value.okWide Tryz.prog W .any base 25 v) (h : DataW.Trod enc Tryz.prog W 0 (fun _ => true) true 25 v d p) (hq : ∀ q ∈ d.weights Tryz.prog 25, q ≤ reachBytes) :
    ∃ t : Nd, NV W.heap.size W t v ∧ setsN t := by
  obtain ⟨fuel, hf⟩ := h
  obtain ⟨t, c0, c1, c2, c3, c4, c5, c6, c7, e, hn, hs⟩ := open_short' fuel _ _ hf
  obtain ⟨cs, rfl, _⟩ := okWide_struct Tryz.underlying25 hv
  have hvv : cs = #[c0, c1, c2, c3, c4, c5, c6, c7] := by
    have : cs.toList = [c0, c1, c2, c3, c4, c5, c6, c7] := by simpa [Value.cells] using e
    exact Array.toList_inj.1 this
  subst hvv
  exact ⟨t, hn, hs hq⟩
/-- What the weights of all arguments say of one. -/
theorem sized_part {H : Type} {P : Program} {ts : List TypeId} {ds : List (DataW H)} (h : (DataW.weightsEach P ts ds).all (· ≤ reachBytes) = true) {j : Nat} {t : TypeId} {d : DataW H} (ht : ts[j]? = some t) (hd : ds[j]? = some d) : ∀ q ∈ d.weights P t, q ≤ reachBytes := fun q hq => by
  have := List.all_eq_true.1 h q (DataW.weights_mem_each ht hd q hq)
  simpa using this
end Go.Proofs.YtjbcapnpknbbaaaGreat.low
end

section
/- How options that came in as an argument read. -/
set_option linter.unusedVariables false
set_option linter.unusedSimpArgs false
namespace Go.Proofs.YtjbcapnpknbbaaaGreat.low
open Go.ChangeShapes Go.WideShapes Go.ChangeAt Go.RowKit Go.Deep nod
open Go.Proofs.YtjbcapnpknbbaaaGreat.rng (R RV)

set_option maxRecDepth 100000 in
/-- How options that came in read. -/
theorem open_opts {H : Type} {enc : TypeId × Value → H} {W : World} {base : Nat} {v : Value} {d : DataW H} {p : List MemPlace}
    (hv : Value.okWide Tryz.prog W .any base 27 v) (h : DataW.Trod enc Tryz.prog W 0 (fun _ => true) true 27 v d p) :
    ∃ (x y z : Bool) (f : Int), v = .agg #[.bool x, .bool y, .bool z, .int .i64 f] ∧ I64 f := by
  obtain ⟨fuel, hf⟩ := h
  obtain ⟨cs, rfl, _⟩ := okWide_struct Tryz.underlying27 hv
  obtain ⟨xs, n, hn, _, hl, hlen, hf⟩ := DataW.trod_struct Tryz.underlying27 hf
  have c4 : Tryz.prog.cellsOf 27 = 4 := by kernel_rfl
  rw [c4] at hl
  obtain ⟨c0, c1, c2, c3, hcs⟩ : ∃ c0 c1 c2 c3, cs.toList = [c0, c1, c2, c3] := by
    have : cs.toList.length = 4 := by simpa [Value.cells] using hl
    match hm : cs.toList, this with
    | [c0, c1, c2, c3], _ => exact ⟨c0, c1, c2, c3, rfl⟩
  obtain rfl : cs = #[c0, c1, c2, c3] := Array.toList_inj.1 hcs
  match xs, hlen with
  | [y0, y1, y2, y3], _ =>
  have ci : Tryz.prog.cellsOf 3 = 1 := by kernel_rfl
  have cb : Tryz.prog.cellsOf 4 = 1 := by kernel_rfl
  have g0 := hf 0 _ rfl
  have g1 := hf 1 _ rfl
  have g2 := hf 2 _ rfl
  have g3 := hf 3 _ rfl
  simp [ci, cb, Value.cells] at g0 g1 g2 g3
  obtain ⟨x0, hv0, _⟩ := DataW.trod_bool Tryz.underlying4 g0
  obtain ⟨x1, hv1, _⟩ := DataW.trod_bool Tryz.underlying4 g1
  obtain ⟨x2, hv2, _⟩ := DataW.trod_bool Tryz.underlying4 g2
  obtain ⟨x3, hv3, _, w3⟩ := DataW.trod_int Tryz.underlying3 g3
  obtain rfl : c0 = .bool x0 := by simpa using hv0
  obtain rfl : c1 = .bool x1 := by simpa using hv1
  obtain rfl : c2 = .bool x2 := by simpa using hv2
  obtain rfl : c3 = .int .i64 x3 := by simpa using hv3
  exact ⟨x0, x1, x2, x3, rfl, wf64 w3⟩
end Go.Proofs.YtjbcapnpknbbaaaGreat.low
end
