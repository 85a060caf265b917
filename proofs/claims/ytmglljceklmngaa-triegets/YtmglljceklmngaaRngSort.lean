/- What slices.SortFunc leaves of a row of ranges: the same ranges, by their beginnings. -/
import Derived.Test.YtmglljceklmngaaRngShelf
import Derived.Test.YtmglljceklmngaaRngSmall
set_option linter.unusedVariables false
set_option linter.unusedSimpArgs false
namespace Go.Proofs.Ytmglljceklmngaa.rng
open Go.Shelf Go.RowKit Go.Lib Go.Sort

def encR (x : R) : List Value := [.int .i64 x.1, .int .i64 x.2]
theorem ltLo (x y : R) : ltOf (fun x y : R => Lib.compareInt x.1 y.1) x y = decide (x.1 < y.1) := by
  unfold ltOf Lib.compareInt
  by_cases h1 : x.1 < y.1
  · simp [h1]
  · by_cases h2 : y.1 < x.1 <;> simp [h1, h2]
theorem swoLo : SWO (ltOf fun x y : R => Lib.compareInt x.1 y.1) where
  irrefl x := by rw [ltLo]; simp
  trans x y z h1 h2 := by rw [ltLo] at *; simp at *; omega
  ntrans x y z h1 h2 := by rw [ltLo] at *; simp at *; omega
set_option maxHeartbeats 2000000 in
theorem closure_any (x y : R) (W : World) : Calls Try.prog 48 #[.agg #[.int .i64 x.1, .int .i64 x.2], .agg #[.int .i64 y.1, .int .i64 y.2]] W fun e w' => e = .returned (.int .i64 (Lib.compareInt x.1 y.1)) ∧ ∃ q os', w' = grow (W.drewN q) os' := by
  have hcon := fun W' => AnyG.cmp_Compare_int Try.cmpI x.1 y.1 W'
  change ∀ W', Calls Try.prog 49 _ _ _ at hcon
  generalize Lib.compareInt x.1 y.1 = r at hcon ⊢
  go_enter Try.func48, Try.ntmps48
  go_wp2_with (go_at_call 49; refine (hcon _).mono ?_; rintro e w' ⟨rfl, rfl⟩)
  go_ret
  exact ⟨rfl, 0, _, by rw [alloc_eq_grow, alloc_eq_grow, grow_grow]; rfl⟩
theorem cmpLays (blk off size : Nat) (w : World) : CmpLays Try.prog 48 #[] encR 2 (fun x y => Lib.compareInt x.1 y.1) blk off size w :=
  fun _ _ _ _ x y => closure_any x y _

theorem flatK_eq (l : List R) : flatK encR 2 l.toArray = (flat l).toArray := by
  refine Array.ext (by simp [flat_length]) fun t h1 h2 => ?_
  have ht : t < l.length * 2 := by simpa using h1
  have hg : (flatK encR 2 l.toArray)[t]! = (encR l.toArray[t / 2]!)[t % 2]! := get_flatK encR 2 l.toArray t (by simpa using ht)
  rw [getElem!_pos _ t h1] at hg
  rw [hg]
  have hl : t / 2 < l.length := by omega
  have hx : l[t / 2]? = some l[t / 2] := List.getElem?_eq_getElem hl
  obtain ⟨e1, e2⟩ := flat_get l (t / 2) _ hx
  have hx' : l.toArray[t / 2]! = l[t / 2] := by rw [getElem!_pos _ _ (by simpa using hl)]; simp
  rw [hx']
  have h2' : t < (flat l).length := by simpa using h2
  have goalE : (flat l)[t]? = some ((encR l[t / 2])[t % 2]!) := by
    rcases Nat.mod_two_eq_zero_or_one t with h | h
    · rw [h]
      have ht2 : t = t / 2 * 2 := by omega
      rw [show (flat l)[t]? = (flat l)[t / 2 * 2]? from congrArg (fun k => (flat l)[k]?) ht2]; exact e1
    · rw [h]
      have ht2 : t = t / 2 * 2 + 1 := by omega
      rw [show (flat l)[t]? = (flat l)[t / 2 * 2 + 1]? from congrArg (fun k => (flat l)[k]?) ht2]; exact e2
  have := List.getElem?_eq_getElem h2'
  rw [goalE] at this
  simpa using this
theorem holds_own {w : World} {B g cap : Nat} {s : List R} (h : Own w B (.slice (some ⟨g, 0, none⟩) s.length cap) s) : HoldsK encR 2 w g 0 s.toArray := by
  unfold HoldsK
  rw [flatK_eq]
  intro j hj
  have hj' : j < s.length * 2 := by simpa [flat_length] using hj
  have h' : w.ownsRow B 43 2 (.slice (some ⟨g, 0, none⟩) s.length cap) s.length (flat s) := h
  rw [Nat.zero_add]
  refine ⟨(h'.cellAt j hj').trans ?_, h'.frozenAt j⟩
  rw [getElem!_pos _ j hj]
  have : j < (flat s).length := by simpa using hj
  rw [List.getElem?_eq_getElem this]; simp
theorem own_sorted {w : World} {B g cap n : Nat} {os : Array Obj} {s t : List R} (h : Own w B (.slice (some ⟨g, 0, none⟩) s.length cap) s) (hl : t.length = s.length) (hB : B ≤ w.heap.size) :
    Own (sortWorldK encR 2 w g 0 n t.toArray os) B (.slice (some ⟨g, 0, none⟩) s.length cap) t ∧ Below B w (sortWorldK encR 2 w g 0 n t.toArray os) := by
  rcases h.2 with ⟨h0, _⟩ | ⟨g', cap', cur, hv, hg, hgg, hc, hm, hs, ht⟩
  · cases h0
  cases hv
  have hlt : g < w.heap.size := (Array.getElem?_eq_some_iff.1 hgg).1
  unfold sortWorldK putRowK
  rw [flatK_eq]
  have hF : (flat t).length = s.length * 2 := by rw [flat_length, hl]
  constructor
  · refine ⟨flat_length t, .inr ⟨g, cap, putCells id 0 (flat t).toArray cur, by rw [hl], hg, ?_, by omega, hm, by simp [putCells, hs], ?_⟩⟩
    · rw [heap_grow_old _ _ (by simpa using hlt)]
      simp [putRow, mapBlock, Sort.ahead, Array.getElem?_modify, hgg, onCells]
    · rw [hl]
      apply List.ext_getElem?
      intro j
      by_cases hj : j < s.length * 2
      · rw [List.getElem?_take_of_lt hj, Array.getElem?_toList]
        have hj2 : j < (flat t).length := by omega
        have hcs : s.length * 2 ≤ cap * 2 := by omega
        simp [putCells, hj2, show j < cur.size by omega]
      · rw [List.getElem?_take_eq_none (by omega), List.getElem?_eq_none (by omega)]
  · refine ⟨rfl, rfl, rfl, by simp, fun k hk => ?_⟩
    rw [heap_grow_old _ _ (by simp; omega)]
    have : g ≠ k := by omega
    simp [putRow, mapBlock, Sort.ahead, Array.getElem?_modify, this]

set_option maxHeartbeats 2000000 in
theorem sort_any (g cap B : Nat) (s : List R) (w : World) (h : Own w B (.slice (some ⟨g, 0, none⟩) s.length cap) s) (hB : B ≤ w.heap.size) (hn : s.length ≤ 2000000) :
    Calls Try.prog 47 #[.slice (some ⟨g, 0, none⟩) s.length cap, .func (.func 48) #[] #[]] w fun e w' => e = .returned (.tuple #[]) ∧ ∃ t, t.Perm s ∧ t.Pairwise (fun a b : R => a.1 ≤ b.1) ∧ Own w' B (.slice (some ⟨g, 0, none⟩) s.length cap) t ∧ Below B w w' := by
  have eg : ∀ args w, (callFunc 48 args).run Try.prog w = .ok (.enter 48 args) w := enters_of Try.func48 (by kernel_rfl) rfl
  have hg : g < w.heap.size := by
    rcases h.2 with ⟨h0, _⟩ | ⟨g', cap', cur, hv, hg, hgg, _⟩
    · cases h0
    · cases hv; exact (Array.getElem?_eq_some_iff.1 hgg).1
  have hcon := AnyQ.slices_SortFunc Try.sortR 2 Try.isAgg43 Try.sizeOf43 encR (fun _ => rfl) (fun x v hv => by simp [encR] at hv; rcases hv with rfl | rfl <;> rfl) (fun x y : R => Lib.compareInt x.1 y.1) swoLo 48 #[] g 0 cap s.toArray w eg (cmpLays g 0 _ w) (holds_own h) hg (by simp; omega)
  change Calls Try.prog 47 _ _ _ at hcon
  have e : s.toArray.size = s.length := by simp
  rw [e] at hcon
  refine hcon.mono ?_
  rintro e w' ⟨rfl, d', n, os, hp, hs, rfl⟩
  obtain ⟨p1, p2, p3⟩ := hp
  have hsz : d'.size = s.length := by simpa using p1
  have hperm : d'.toList.Perm s := by
    have e1 : d'.extract 0 s.length = d' := by rw [← hsz]; simp
    have e2 : s.toArray.extract 0 s.length = s.toArray := by simp
    rw [e1, e2] at p3
    simpa using p3
  refine ⟨rfl, d'.toList, hperm, ?_, ?_⟩
  · rw [List.pairwise_iff_getElem]
    intro i j hi hj hij
    have hi' : i < d'.size := by simpa using hi
    have hj' : j < d'.size := by simpa using hj
    have := hs i j (Nat.zero_le _) hij (by omega)
    rw [ltLo, getElem!_pos d' i hi', getElem!_pos d' j hj'] at this
    simp at this
    simpa using this
  · have hl : d'.toList.length = s.length := by simpa using hsz
    have := own_sorted (n := n) (os := os) h hl hB
    simpa using this
end Go.Proofs.Ytmglljceklmngaa.rng
