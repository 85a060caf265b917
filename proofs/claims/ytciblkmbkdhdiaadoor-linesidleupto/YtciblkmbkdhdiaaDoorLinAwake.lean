/- What the statements' awake answers: true. How records in memory are read. -/
import Derived.Test.YtciblkmbkdhdiaaDoorLinParse
import Derived.Test.YtciblkmbkdhdiaaDoorLinShelf
import Derived.Deep.QuietTactic
import Derived.BigQuiet
set_option linter.unusedVariables false
set_option linter.unusedSimpArgs false
namespace Go.Proofs.YtciblkmbkdhdiaaDoor.lin
open Go.RowKit

/-- A record lies at cell off of block b. -/
def RecAt (w : World) (b off : Nat) (r : RecT) : Prop :=
  w.cell? ⟨b, off, none⟩ = some (.int .i64 r.1) ∧ w.cell? ⟨b, off + 1, none⟩ = some (.int .i64 r.2.1) ∧
  ∃ g o c, w.cell? ⟨b, off + 1 + 1, none⟩ = some (.slice (some ⟨g, o, none⟩) r.2.2.length c) ∧ ∀ j, j < r.2.2.length → w.cell? ⟨g, o + j, none⟩ = some (.string (r.2.2.getD j ByteArray.empty))

theorem flatR_get : ∀ (L : List RR) (i : Nat) (q : RR), L[i]? = some q → (flatR L)[i * 3]? = some (.int .i64 q.lo) ∧ (flatR L)[i * 3 + 1]? = some (.int .i64 q.hi) ∧ (flatR L)[i * 3 + 1 + 1]? = some q.fv
  | [], i, q, h => by simp at h
  | x :: L, 0, q, h => by simp at h; subst h; simp [flatR]
  | x :: L, i + 1, q, h => by
    have := flatR_get L i q (by simpa using h)
    rw [show x :: L = [x] ++ L from rfl, flatR_append, show flatR [x] = [.int .i64 x.lo, .int .i64 x.hi, x.fv] from rfl]
    rw [show (i + 1) * 3 = i * 3 + 3 from by omega]
    simpa using this

/-- Records that are a row: the slice, and each record where it lies. -/
theorem Recs.view {w : World} {base : Nat} {v : Value} {rs : List RecT} (h : Recs w base v rs) :
    ∃ a c, v = .slice a rs.length c ∧ (0 < rs.length → ∃ g, a = some ⟨g, 0, none⟩ ∧ base ≤ g ∧ g < w.heap.size ∧ ∀ i r, rs[i]? = some r → RecAt w g (i * 3) r) := by
  obtain ⟨L, rfl, ho, hf⟩ := h
  rw [List.length_map]
  rcases ho.2 with hn | ⟨g, cap, cur, rfl, hg, hgg, h3, h4, h5, h6⟩
  · obtain ⟨rfl, h0⟩ := hn
    have h0' : L.length = 0 := by simpa using h0
    rw [h0']
    exact ⟨_, _, rfl, fun h => by omega⟩
  · refine ⟨_, _, rfl, fun _ => ⟨g, rfl, hg, (Array.getElem?_eq_some_iff.1 hgg).1, ?_⟩⟩
    intro i r hr
    rw [List.getElem?_map] at hr
    cases hq : L[i]? with
    | none => rw [hq] at hr; cases hr
    | some q =>
      rw [hq] at hr
      obtain rfl : q.plain = r := by simpa using hr
      have hi : i < L.length := (List.getElem?_eq_some_iff.1 hq).1
      obtain ⟨e1, e2, e3⟩ := flatR_get L i q hq
      have get : ∀ j, j < L.length * 3 → w.cell? ⟨g, j, none⟩ = (flatR L)[j]? := by
        intro j hj
        rw [cell_of_row w g j cur _ _ hgg, ← h6, List.getElem?_take_of_lt hj, Array.getElem?_toList]
      obtain ⟨g', o, c, cur', hv, _, hgg', hcc⟩ := hf q (List.mem_of_getElem? hq)
      refine ⟨(get _ (by omega)).trans e1, (get _ (by omega)).trans e2, g', o, c, ?_, ?_⟩
      · rw [get _ (by omega), e3, hv]; rfl
      · intro j hj
        rw [cell_of_row w g' _ cur' _ _ hgg']
        exact hcc j hj

def lineA : ByteArray := ⟨#[48, 48, 52, 49, 46, 46, 48, 48, 53, 65, 32, 59, 32, 76, 117, 32, 35, 32, 120]⟩
theorem parse_awake : parseV lineA = ([(65, 90, [⟨#[76, 117]⟩])], 0, 0) := by kernel_rfl

set_option maxHeartbeats 2000000 in
set_option maxRecDepth 100000 in
theorem awake_any (w : World) (m : Int) (hm : w.cell? ⟨2, 0, none⟩ = some (.int .i64 m)) (hm2 : 2 < w.heap.size) :
    Calls Tryd.prog 17 #[] w fun e w' => e = .returned (.bool true) ∧ Below w.heap.size w w' := by
  have PA := parse_any lineA w m (by decide) hm hm2
  rw [parse_awake] at PA
  unfold lineA at PA
  go_enter Tryd.func17, Tryd.ntmps17
  go_wp2_with fail
  refine PA.mono ?_
  rintro e w2 ⟨v, rfl, hr, hb⟩
  obtain ⟨a, c, rfl, hv⟩ := hr.view
  obtain ⟨g, rfl, _, hg, hri⟩ := hv (by simp)
  obtain ⟨e1, e2, g', o, c', e3, e4⟩ := hri 0 _ rfl
  clear hri hv hr PA
  simp only [List.length_cons, List.length_nil, Nat.zero_mul, Nat.zero_add] at e1 e2 e3 e4
  have e5 := e4 0 (by decide)
  have hgl : g' < w2.heap.size := World.block_lt_of_cell? w2 _ e5
  have SE := Tryd.slices_Equal_string g' o 1 c' w2.heap.size 0 1 1 [⟨#[76, 117]⟩] [⟨#[76, 117]⟩] (w2.alloc (.cells #[.string ⟨#[76, 117]⟩] 9)) (Nat.le_refl _) (Nat.le_refl _) (by decide) (by decide)
    (fun j hj => (World.cell?_of_block (w := w2) (a := ⟨g', o + j, none⟩) (Below.heap_alloc _ _ _ hgl)).trans (e4 j hj)) (fun j hj => by
      obtain rfl : j = 0 := by simpa using hj
      exact (Boxed.new w2 9 (.string ⟨#[76, 117]⟩)).cell)
  clear e4 e5
  go_wp2_with fail
  refine SE.mono ?_
  rintro e w3 ⟨rfl, q, rfl⟩
  go_wp2
  go_ret
  exact ⟨rfl, (hb.alloc hb.size _).trans ⟨rfl, rfl, rfl, Nat.le_refl _, fun _ _ => rfl⟩⟩
end Go.Proofs.YtciblkmbkdhdiaaDoor.lin
