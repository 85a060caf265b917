/- slices.Clone over records, and a record behind them. -/
import Derived.Test.YtciblkmbkdhdiaaDoorLinesBack
import Derived.Lib.SliceRun
set_option linter.unusedVariables false
set_option linter.unusedSimpArgs false
namespace Go.Proofs.YtciblkmbkdhdiaaDoor.lin
open Go.RowKit

/-- A row of the call's own, of records whose fields lie anywhere. -/
def Own (w : World) (base : Nat) (v : Value) (rs : List RecT) : Prop :=
  ∃ L : List RR, L.map RR.plain = rs ∧ w.ownsRow base 42 3 v L.length (flatR L) ∧ ∀ q ∈ L, FV w q.fv q.fs
theorem rows_of (w : World) (b : Nat) : ∀ (rs : List RecT) (o : Nat), (∀ (i : Nat) (r : RecT), rs[i]? = some r → RecIn w b (o + i * 3) r) → ∃ L : List RR, L.map RR.plain = rs ∧ (∀ q ∈ L, FV w q.fv q.fs) ∧ ∀ (j : Nat) u, (flatR L)[j]? = some u → w.cell? ⟨b, o + j, none⟩ = some u
  | [], o, _ => ⟨[], rfl, fun _ h => (by cases h), fun j u h => (by simp [flatR] at h)⟩
  | r :: rs, o, h => by
    obtain ⟨h1, h2, fv, h3, h4⟩ := h 0 r rfl
    obtain ⟨L, e1, e2, e3⟩ := rows_of w b rs (o + 3) (fun i q hi => by
      have := h (i + 1) q (by simpa using hi)
      rw [show o + (i + 1) * 3 = o + 3 + i * 3 by omega] at this
      exact this)
    simp only [Nat.zero_mul, Nat.add_zero] at h1 h2 h3
    refine ⟨⟨r.1, r.2.1, fv, r.2.2⟩ :: L, by rw [List.map_cons, e1]; rfl, ?_, ?_⟩
    · intro q hq
      rcases List.mem_cons.1 hq with rfl | hq
      · exact h4
      · exact e2 q hq
    · intro j u hj
      have hj' : (Value.int .i64 r.1 :: Value.int .i64 r.2.1 :: fv :: flatR L)[j]? = some u := hj
      match j, hj' with
      | 0, hj' => cases hj'; exact h1
      | 1, hj' => cases hj'; exact h2
      | 2, hj' => cases hj'; exact h3
      | j + 3, hj' =>
        have := e3 j u (by simpa using hj')
        rw [show o + (j + 3) = o + 3 + j by omega]
        exact this
theorem one_flat {w : World} {L : List RR} (h : ∀ q ∈ L, FV w q.fv q.fs) : ∀ u ∈ flatR L, u.oneCell' = true := by
  intro u hu
  unfold flatR at hu
  obtain ⟨q, hq, hu⟩ := List.mem_flatMap.1 hu
  obtain ⟨a, c, hv, _⟩ := h q hq
  simp only [List.mem_cons, List.mem_nil_iff, or_false] at hu
  rcases hu with rfl | rfl | rfl
  · rfl
  · rfl
  · rw [hv]; rfl
theorem Own.view {w : World} {base : Nat} {v : Value} {rs : List RecT} (h : Own w base v rs) (hp : ∀ r ∈ rs, 0 < r.2.2.length) : View w v rs := by
  obtain ⟨L, rfl, ho, hf⟩ := h
  rcases ho.2 with ⟨rfl, h0⟩ | ⟨g, cap, cur, rfl, hg, hgg, h3, h4, h5, h6⟩
  · exact ⟨none, 0, by rw [List.length_map, h0], fun h => by rw [List.length_map, h0] at h; cases h⟩
  · refine ⟨_, cap, by rw [List.length_map], fun _ => ⟨g, 0, rfl, fun i r hi => ?_⟩⟩
    rw [List.getElem?_map] at hi
    obtain ⟨q, hq, rfl⟩ := Option.map_eq_some_iff.1 hi
    obtain ⟨k1, k2, k3⟩ := flatR_get L i q hq
    have hil : i < L.length := (List.getElem?_eq_some_iff.1 hq).1
    have cell : ∀ (j : Nat) u, j < L.length * 3 → (flatR L)[j]? = some u → w.cell? ⟨g, j, none⟩ = some u := fun j u hlt hj => by
      rw [cell_of_row w g j cur _ _ hgg, ← hj, ← h6, List.getElem?_take_of_lt hlt, Array.getElem?_toList]
    have hqm := List.mem_of_getElem? hq
    obtain ⟨fa, fc, hfv, hfc⟩ := hf q hqm
    obtain ⟨fg, fo, rfl, h7⟩ := hfc (hp q.plain (List.mem_map.2 ⟨q, hqm, rfl⟩))
    rw [Nat.zero_add]
    refine ⟨cell _ _ (by omega) k1, cell _ _ (by omega) k2, fg, fo, fc, (cell _ _ (by omega) k3).trans (by rw [hfv]; rfl), fun j hj => h7 j _ ?_⟩
    have hj' : j < q.fs.length := hj
    show q.fs[j]? = some (q.fs.getD j ByteArray.empty)
    simp [List.getD, List.getElem?_eq_getElem hj']
set_option maxHeartbeats 1000000 in
set_option maxRecDepth 100000 in
theorem cloneRecs_any (v : Value) (rs : List RecT) (w : World) (hv : InRecs w v rs) (hn : rs.length ≤ 1048576) :
    Calls Tryd.prog 22 #[v] w fun e w' => ∃ v' L, e = .returned v' ∧ L.map RR.plain = rs ∧ w'.ownsRow w.heap.size 42 3 v' L.length (flatR L) ∧ (∀ q ∈ L, FV w q.fv q.fs) ∧ Below w.heap.size w w' := by
  obtain ⟨i0, hi, hz0, hy1, hz2⟩ := info_parts infoRec3
  obtain ⟨a, c, rfl, hrow⟩ := hv
  cases a with
  | none =>
    have h0 : rs = [] := by
      cases rs with
      | nil => rfl
      | cons r rs => obtain ⟨b, o, h, _⟩ := hrow (by simp); cases h
    subst h0
    clear hrow
    go_enter Tryd.func22, Tryd.ntmps22
    go_wp2_with fail
    rw [Lib.run_eql_slice_nil _ _ _ _ _ _ _ _ Tryd.underlying22]
    go_wp2
    go_ret
    exact ⟨_, [], rfl, rfl, World.ownsRow_nil _ _ _ _, fun _ h => (by cases h), Below.refl _ _⟩
  | some x =>
    obtain ⟨L, e1, e2, e3⟩ : ∃ L : List RR, L.map RR.plain = rs ∧ (∀ q ∈ L, FV w q.fv q.fs) ∧ ∀ (j : Nat) u, (flatR L)[j]? = some u → w.cell? (x.add j) = some u := by
      rcases Nat.eq_zero_or_pos rs.length with h0 | h0
      · obtain rfl := List.length_eq_zero_iff.1 h0
        exact ⟨[], rfl, fun _ h => (by cases h), fun j u h => (by simp [flatR] at h)⟩
      · obtain ⟨b, o, h, hr⟩ := hrow h0
        cases h
        obtain ⟨L, e1, e2, e3⟩ := rows_of w b rs o hr
        exact ⟨L, e1, e2, fun j u hj => by rw [show ((⟨b, o, none⟩ : Addr).add j) = ⟨b, o + j, none⟩ from by simp [Addr.add]]; exact e3 j u hj⟩
    subst e1
    rw [List.length_map] at hn ⊢
    have HE2 : Hid (∀ q ∈ L, FV w q.fv q.fs) := e2
    have HE3 : Hid (∀ (j : Nat) u, (flatR L)[j]? = some u → w.cell? (x.add j) = some u) := e3
    clear hrow e2 e3
    go_enter Tryd.func22, Tryd.ntmps22
    go_wp2_with fail
    rw [Lib.run_eql_slice_nil _ _ _ _ _ _ _ _ Tryd.underlying22]
    go_wp2_with (at_builtin; refine wpList_append_own _ rfl _ _ 22 rfl w.heap.size 42 i0 (.agg #[.int .i64 0, .int .i64 0, .slice none 0 0]) 3 40 Tryd.underlying22 hi hz0 hy1 hz2 rfl (by decide) _ _ _ rfl (World.ownsRow_made w #[] 0 (Nat.le_refl _) (by decide) rfl) x L.length c (flatR L) rfl (flatR_length L) (fun j u hj => (World.grownBy_alloc w _ none).cell (HE3.out j u hj) (by simp)) (one_flat HE2.out) (by unfold maxLen; omega) (by omega) (by simp) ?_)
    intro v' w3 hown hgrow _
    have bb : Below w.heap.size w w3 := ((Below.refl w.heap.size w).alloc (Nat.le_refl _) _).grown hgrow (by simp) (fun k e => by cases e; exact Nat.le_refl _)
    clear hgrow
    obtain ⟨va, vc, rfl⟩ := own_slice hown
    have HO : Hid (w3.ownsRow w.heap.size 42 3 (.slice va L.length vc) L.length (flatR L)) := hown
    clear HE3 hown
    go_wp2
    go_ret
    exact ⟨_, L, rfl, rfl, HO.out, HE2.out, bb⟩
end Go.Proofs.YtciblkmbkdhdiaaDoor.lin
