/- Texts that the proof leans on, one behind the other. -/
import Derived.Test.YtbdojobplhpnbabGreatDoorBdClu1
import Derived.ProofKit
import Derived.OpenShut
import Derived.ChangeSame
import Derived.ChangeMaps5
import Derived.LaidSub
import Derived.Lib.LaidTab

section
/- The table of syllables, as a row lays it. -/
set_option linter.unusedVariables false
set_option linter.unusedSimpArgs false
namespace Go.Proofs.YtbdojobplhpnbabGreatDoor.clu
open Go.ChangeShapes Go.WideShapes Go.ChangeAt Go.RowKit

def sylD : DataW Unit := .agg (syl.map fun z => .agg [.lit (.int .i64 z.1), .lit (.int .i64 z.2)])
set_option maxRecDepth 100000 in
theorem syl_cells {H : Type} {enc : TypeId × Value → H} {w : World} {base : Nat} {sp : Nat → Bool} {held : Bool} {fuel : Nat} {cs : List Value} {zs : List (Int × Int)} {p : List MemPlace}
    (h : DataW.trod enc Tryz.prog w base sp held fuel 58 cs = some (.agg (zs.map fun z => .agg [.lit (.int .i64 z.1), .lit (.int .i64 z.2)]), p)) :
    ∀ (i : Nat) (z : Int × Int), zs[i]? = some z → i < 10 → cs[i * 2]? = some (.int .i64 z.1) ∧ cs[i * 2 + 1]? = some (.int .i64 z.2) := by
  intro i z hz hi
  obtain ⟨xs, m, _, hx, hl, hn, hat⟩ := DataW.trod_array Tryz.underlying58 h
  have ce : Tryz.prog.cellsOf 46 = 2 := by kernel_rfl
  have ck : Tryz.prog.cellsOf 43 = 1 := by kernel_rfl
  have q := hat i hi
  rw [ce] at q
  obtain ⟨x, hxi⟩ : ∃ x, xs[i]? = some x := ⟨_, List.getElem?_eq_getElem (by omega)⟩
  rw [hxi] at q
  obtain ⟨y0, y1, kk, hy, hlen, g0, g1⟩ := trod_struct2 Tryz.underlying46 q
  simp [ck] at g0 g1
  obtain ⟨x0, hv0, hy0, _⟩ := DataW.trod_int Tryz.underlying43 g0
  obtain ⟨x1, hv1, hy1, _⟩ := DataW.trod_int Tryz.underlying43 g1
  have e1 := congrArg Prod.fst hx
  simp only at e1
  injection e1 with e1
  have e2 : (xs.map (·.1))[i]? = some (DataW.agg [.lit (.int .i64 z.1), .lit (.int .i64 z.2)]) := by rw [← e1, List.getElem?_map, hz]; rfl
  rw [List.getElem?_map, hxi, Option.map_some, hy] at e2
  simp only [Option.some.injEq, DataW.agg.injEq, List.cons.injEq, and_true] at e2
  obtain ⟨e3, e4⟩ := e2
  have f0 : x0 = z.1 := by
    rw [hy0] at e3
    simpa using e3
  have f1 : x1 = z.2 := by
    rw [hy1] at e4
    simpa using e4
  have r0 := congrArg (·[0]?) hv0
  have r1 := congrArg (·[0]?) hv1
  simp [List.getElem?_take, List.getElem?_drop] at r0 r1
  rw [← f0, ← f1]
  exact ⟨r0, r1⟩
theorem syl_key : ∀ (i : Nat), i < 10 → ∃ z, syl[i]? = some z ∧ sylC[i * 2]? = some (.int .i64 z.1) ∧ sylC[i * 2 + 1]? = some (.int .i64 z.2)
  | 0, _ => ⟨(4, 4), rfl, rfl, rfl⟩
  | 1, _ => ⟨(4, 5), rfl, rfl, rfl⟩
  | 2, _ => ⟨(4, 7), rfl, rfl, rfl⟩
  | 3, _ => ⟨(4, 8), rfl, rfl, rfl⟩
  | 4, _ => ⟨(7, 5), rfl, rfl, rfl⟩
  | 5, _ => ⟨(7, 6), rfl, rfl, rfl⟩
  | 6, _ => ⟨(5, 5), rfl, rfl, rfl⟩
  | 7, _ => ⟨(5, 6), rfl, rfl, rfl⟩
  | 8, _ => ⟨(8, 6), rfl, rfl, rfl⟩
  | 9, _ => ⟨(6, 6), rfl, rfl, rfl⟩
  | k + 10, h => absurd h (by omega)
theorem gSyl : Tryz.prog.globalNamed "rubricator/cluster.syllables" = some 0 := by kernel_rfl
theorem gSylType : (Tryz.prog.globals[0]?).map (·.type) = some 58 := by kernel_rfl
theorem syl_of {W : World} (h : laidMet Tryz.prog [("rubricator/cluster.syllables", sylD)] W) : Syl W := by
  obtain ⟨ps, ⟨g', t', cs, fuel, p, q, hg', ht', hvar, hd, _, _⟩, _⟩ := h
  obtain rfl := Option.some.inj (gSyl.symm.trans hg')
  obtain rfl := Option.some.inj (gSylType.symm.trans ht')
  intro j u hj
  have hj20 : j < 20 := (List.getElem?_eq_some_iff.1 hj).1
  obtain ⟨z, hz, k0, k1⟩ := syl_key (j / 2) (by omega)
  obtain ⟨c0, c1⟩ := syl_cells hd (j / 2) z hz (by omega)
  rw [Array.getElem?_toList] at c0 c1
  have v := World.var?_cell gSyl hvar j
  rcases (show j = j / 2 * 2 ∨ j = j / 2 * 2 + 1 by omega) with e | e
  · rw [v]
    rw [e] at hj ⊢
    rw [c0, ← k0, hj]
  · rw [v]
    rw [e] at hj ⊢
    rw [c1, ← k1, hj]
end Go.Proofs.YtbdojobplhpnbabGreatDoor.clu
end
