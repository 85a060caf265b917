/- How bytes, spans and texts that came in as arguments read, and how long they are at most. -/
import Derived.Test.YtfnndnlhdfjggaaRows
import Derived.Test.YtfnndnlhdfjggaaEdtSpan
import Derived.Test.YtfnndnlhdfjggaaEdtGroup
import Derived.ProofKit
import Derived.OpenShut
import Derived.Deep.Strs
set_option linter.unusedVariables false
set_option linter.unusedSimpArgs false
namespace Go.Proofs.Ytfnndnlhdfjggaa.edt
open Go.ChangeShapes Go.WideShapes Go.ChangeAt Go.RowKit Go.Deep

theorem bulk_one {H : Type} (d : DataW H) : 1 ≤ Rows.uptoBulk d := by
  cases d with
  | lit l => cases l <;> simp [Rows.uptoBulk]
  | _ => simp [Rows.uptoBulk]
theorem bulk_length {H : Type} (l : List (DataW H)) : l.length ≤ Rows.uptoBulkAll l := by
  induction l with
  | nil => simp [Rows.uptoBulkAll]
  | cons x r ih => have := bulk_one x; simp only [Rows.uptoBulkAll, List.length_cons]; omega
def ArgB (W : World) (v : Value) (l : List Int) : Prop := ∃ ao n cap, v = .slice ao n cap ∧ BS W ao n cap l
def ArgS (W : World) (v : Value) (l : List Sp) : Prop := ∃ ao n cap, v = .slice ao n cap ∧ SS W ao n cap l
def ArgT (W : World) (v : Value) (l : List ByteArray) : Prop := ∃ ao n cap, v = .slice ao n cap ∧ TS W ao n cap l

theorem open_bytes {H : Type} {enc : TypeId × Value → H} {W : World} {base : Nat} {v : Value} {d : DataW H} {p : List MemPlace}
    (hv : Value.okWide Try.prog W .any base 22 v) (h : DataW.Trod enc Try.prog W 0 (fun _ => true) true 22 v d p) :
    ∃ l : List Int, ArgB W v l ∧ l.length ≤ Rows.uptoBulk d := by
  obtain ⟨ao, n, cap, rfl⟩ := okWide_slice Try.underlying22 hv
  obtain ⟨fuel, hf⟩ := h
  rcases open_ints Try.underlying22 Try.underlying5 (by kernel_rfl) hf with ⟨hcs, _⟩ | ⟨x, l, c, zs, hcs, _, hl, hm, hz, hx, hcell, hwz⟩
  · simp [Value.cells] at hcs
    obtain ⟨rfl, rfl, rfl⟩ := hcs
    exact ⟨[], ⟨none, 0, 0, rfl, BS.nilv W⟩, Nat.zero_le _⟩
  · simp [Value.cells] at hcs
    obtain ⟨rfl, rfl, rfl⟩ := hcs
    simp at hz
    unfold maxLen at hm
    have hlen : (zs.take n).length = n := by rw [List.length_take]; omega
    have hget : ∀ i, i < n → (zs.take n).getD i 0 = zs[i]?.getD 0 := fun i hi => by rw [List.getD_eq_getElem?_getD, List.getElem?_take, if_pos hi]
    refine ⟨zs.take n, ⟨some x, n, cap, rfl, hlen, hl, by omega, (fun e => by cases e), ?_, ?_⟩, ?_⟩
    · intro i
      rcases Nat.lt_or_ge i n with hi | hi
      · rw [hget i hi]; exact range_u8 hwz i
      · rw [List.getD_eq_getElem?_getD, List.getElem?_eq_none (by omega)]; simp
    · rcases Nat.eq_zero_or_pos n with h0 | h0
      · exact .inl h0
      · obtain ⟨b, off, spot⟩ := x
        have hspot : spot = none := by simpa [Addr.add] using World.cell?_spot (hcell 0 (by omega))
        subst hspot
        exact .inr ⟨b, off, rfl, fun i hi => by rw [hget i hi, ← Addr.add_lit]; simpa using hcell i (by omega)⟩
    · obtain ⟨rfl, rfl⟩ := Prod.mk.inj hx
      have h1 := bulk_length (lits (H := H) .u8 (zs.take n))
      simp only [lits, List.length_map] at h1
      simp only [Rows.uptoBulk, lits]
      omega
set_option maxRecDepth 100000 in
theorem open_spans {H : Type} {enc : TypeId × Value → H} {W : World} {base : Nat} {v : Value} {d : DataW H} {p : List MemPlace}
    (hv : Value.okWide Try.prog W .any base 47 v) (h : DataW.Trod enc Try.prog W 0 (fun _ => true) true 47 v d p) :
    ∃ l : List Sp, ArgS W v l ∧ l.length ≤ Rows.uptoBulk d := by
  obtain ⟨ao, n, cap, rfl⟩ := okWide_slice Try.underlying47 hv
  obtain ⟨fuel, hf⟩ := h
  rcases Go.Deep.open_slice Try.underlying47 hf with ⟨hcs, _⟩ | ⟨a, len, cap', m, k, D, Pl, hcs, _, hl, hm, hmm, hx, hel⟩
  · simp [Value.cells] at hcs
    obtain ⟨rfl, rfl, rfl⟩ := hcs
    exact ⟨[], ⟨none, 0, 0, rfl, rfl, Nat.le_refl _, by omega, .inl rfl⟩, Nat.zero_le _⟩
  · simp [Value.cells] at hcs
    obtain ⟨rfl, rfl, rfl⟩ := hcs
    simp at hmm
    subst hmm
    have c2 : Try.prog.cellsOf 54 = 2 := by kernel_rfl
    have each : ∀ i, i < n → ∃ r : Sp, W.cell? (a.add (i * 2)) = some (.int .i64 r.1) ∧ W.cell? (a.add (i * 2 + 1)) = some (.int .i64 r.2) := by
      intro i hi
      obtain ⟨cs', h1, h2⟩ := hel i (by omega)
      rw [c2] at h1
      obtain ⟨_, hlen, hcell⟩ := World.cells?_some h1
      obtain ⟨y0, y1, kk, hy, _, g0, g1⟩ := trod_struct2 Try.underlying54 h2
      match cs', hlen with
      | [v0, v1], _ =>
        have e0 := hcell 0 (by omega)
        have e1 := hcell 1 (by omega)
        rw [Go.Deep.add_add] at e0 e1
        have ci : Try.prog.cellsOf 3 = 1 := by kernel_rfl
        simp [ci] at g0 g1
        obtain ⟨x0, hv0, hy0, _⟩ := DataW.trod_int Try.underlying3 g0
        obtain ⟨x1, hv1, hy1, _⟩ := DataW.trod_int Try.underlying3 g1
        obtain rfl : v0 = .int .i64 x0 := by simpa using hv0
        obtain rfl : v1 = .int .i64 x1 := by simpa using hv1
        exact ⟨(x0, x1), by simpa using e0, by simpa using e1⟩
    obtain ⟨Rf, hR⟩ := choose_lt each
    unfold maxLen at hm
    refine ⟨(List.range n).map Rf, ⟨some a, n, _, rfl, by rw [List.length_map, List.length_range], by simpa using hl, by omega, ?_⟩, ?_⟩
    · rcases Nat.eq_zero_or_pos n with h0 | h0
      · exact .inl h0
      · obtain ⟨b, off, spot⟩ := a
        have hspot : spot = none := by simpa [Addr.add] using World.cell?_spot (hR 0 h0).1
        subst hspot
        refine .inr ⟨b, off, rfl, fun i hi => ?_⟩
        have e : ((List.range n).map Rf).getD i (0, 0) = Rf i := by rw [List.getD_eq_getElem?_getD, List.getElem?_map, List.getElem?_range hi]; rfl
        obtain ⟨h1, h2⟩ := hR i hi
        rw [Addr.add_lit] at h1 h2
        rw [e]
        exact ⟨h1, by rw [Nat.add_assoc]; exact h2⟩
    · cases hx
      have h1 := bulk_length ((List.range n).map D)
      rw [List.length_map, List.length_range] at h1
      rw [List.length_map, List.length_range]
      simp only [Rows.uptoBulk]
      omega
theorem open_strings {H : Type} {enc : TypeId × Value → H} {W : World} {base : Nat} {v : Value} {d : DataW H} {p : List MemPlace}
    (hv : Value.okWide Try.prog W .any base 23 v) (h : DataW.Trod enc Try.prog W 0 (fun _ => true) true 23 v d p) :
    ∃ l : List ByteArray, ArgT W v l ∧ l.length ≤ Rows.uptoBulk d := by
  obtain ⟨ao, n, cap, rfl⟩ := okWide_slice Try.underlying23 hv
  obtain ⟨fuel, hf⟩ := h
  rcases open_strs Try.underlying23 Try.underlying9 (by kernel_rfl) hf with ⟨hcs, hx⟩ | ⟨a, len, cap', m, Sx, hcs, _, hl, hm, hmm, hx, hc⟩
  · simp [Value.cells] at hcs
    obtain ⟨rfl, rfl, rfl⟩ := hcs
    exact ⟨[], ⟨none, 0, 0, rfl, ⟨rfl, Nat.le_refl _, by omega, fun _ => rfl, .inl rfl⟩⟩, Nat.zero_le _⟩
  · simp [Value.cells] at hcs
    obtain ⟨rfl, rfl, rfl⟩ := hcs
    simp at hmm
    subst hmm
    unfold maxLen at hm
    obtain ⟨e1, e2⟩ := Prod.mk.inj hx
    refine ⟨(List.range n).map Sx, ⟨some a, n, _, rfl, by rw [List.length_map, List.length_range], by simpa using hl, by omega, fun e => (by cases e), ?_⟩, ?_⟩
    · rcases Nat.eq_zero_or_pos n with h0 | h0
      · exact .inl h0
      · obtain ⟨b, off, spot⟩ := a
        have hspot : spot = none := by simpa [Addr.add] using World.cell?_spot (hc 0 (by omega)).1
        subst hspot
        refine .inr ⟨b, off, rfl, fun i hi => ?_⟩
        have q1 := (hc i (by omega)).1
        rw [Addr.add_lit] at q1
        rw [List.getD_eq_getElem?_getD, List.getElem?_map, List.getElem?_range hi]
        exact q1
    · subst e1
      rw [List.length_map, List.length_range]
      simp only [Rows.uptoBulk]
      have h1 := bulk_length (H := H) ((List.range n).map fun i => DataW.lit (.string (Sx i).data.toList))
      rw [List.length_map, List.length_range] at h1
      first | omega | (simp at h1 ⊢; omega)
end Go.Proofs.Ytfnndnlhdfjggaa.edt
