/- width.Bound. -/
import Derived.Test.YtjblccgkocknbaaWidFromB
set_option linter.unusedVariables false
set_option linter.unusedSimpArgs false
namespace Go.Proofs.Ytjblccgkocknbaa.wid
open Go.RowKit
open Go.Proofs.Ytjblccgkocknbaa.nod
open Go.Proofs.Ytjblccgkocknbaa.rng (R RV ret_int ret_bool below_drewN info_parts own_below' flat flat_append flat_length flat_get)

set_option maxRecDepth 10000 in
theorem up_bound (eb : Nat) (t : Nd) (v : Value) (s : Int) (B : Nat) (w : World) (hv : NV B w t v) (hB : B ≤ eb) (he : eb < w.heap.size) (hst : St (some eb) (stV s) w) (hs : t.sz ≤ 100000000) :
    Calls Try.prog 16 #[v, .func (.func 17) #[] #[], .func (.func 23) #[] #[.pointer (some ⟨eb, 0, none⟩)]] w fun e w' => e = .returned (agg2 (ofN t)) ∧ St (some eb) (stV (sb (badN t) s)) w' ∧ Kp (some eb) w w' := by
  obtain ⟨k, m, a, b, g, n, st, ks, sa, sc, ao, cap, rfl, rfl, _⟩ := hv.open
  generalize st.length = sl at *
  generalize ks.length = nk at *
  obtain ⟨r, hr⟩ : ∃ r, ofN (.mk k m a b g n st ks) = r := ⟨_, rfl⟩
  obtain ⟨r1, r2⟩ := r
  obtain ⟨q, hq⟩ : ∃ q, sb (badN (.mk k m a b g n st ks)) s = q := ⟨_, rfl⟩
  have C := from_bound eb _ _ _ 0 s B ((w.alloc (.cells #[.int .i64 k, .int .i64 m, .int .i64 a, .int .i64 b, .bool g, .string n, .slice sa sl sc, .slice ao nk cap] 25)).alloc (.cells #[.int .i64 0, .int .i64 0] 39)) (Nat.le_refl _) (hv.keep (below_less (below2 _ _ _) (by omega))) (by simp; omega) (fun x e => (by cases e; simp; omega)) (hst.keep (below2 _ _ _)) (by omega) (by omega)
  have HB : Hid (Below w.heap.size w ((w.alloc (.cells #[.int .i64 k, .int .i64 m, .int .i64 a, .int .i64 b, .bool g, .string n, .slice sa sl sc, .slice ao nk cap] 25)).alloc (.cells #[.int .i64 0, .int .i64 0] 39))) := below2 _ _ _
  have HR : Hid (Bk ((w.alloc (.cells #[.int .i64 k, .int .i64 m, .int .i64 a, .int .i64 b, .bool g, .string n, .slice sa sl sc, .slice ao nk cap] 25)).alloc (.cells #[.int .i64 0, .int .i64 0] 39)) (w.heap.size + 1) #[.int .i64 0, .int .i64 0] 39) := bk2
  rw [hr, hq] at C ⊢
  clear hv hr hq hst
  go_enter Try.func16, Try.ntmps16
  go_wp2_with (go_at_call 27; refine C.mono ?_; rintro e w1 ⟨rfl, s', d⟩; have b0 := HR.out.kp d (fun e => by cases e; omega); have c0 := b0.cell 0 (u := .int .i64 0) rfl; have c1 := b0.cell 1 (u := .int .i64 0) rfl; have c2 := b0.frozen 0; have c3 := b0.frozen 1; have HR2 : Hid (Bk w1 (w.heap.size + 1) #[.int .i64 0, .int .i64 0] 39) := b0; have HF : Hid (∀ X Y, Kp (some eb) w ((w1.setCell ⟨w.heap.size + 1, 0, none⟩ X).setCell ⟨w.heap.size + 1, 1, none⟩ Y)) := fun X Y => (((Kp.of_below HB.out).trans d).setCell (p := ⟨w.heap.size + 1, 0, none⟩) (.inl (by simp)) X).setCell (p := ⟨w.heap.size + 1, 1, none⟩) (.inl (by simp)) Y; have HS : Hid (St (some eb) (stV q) w1) := s'; clear d s' b0)
  refine bodyPost_ret (results_cell_row Try.results16 _ _ (w.heap.size + 1) _ #[.int .i64 r1, .int .i64 r2] _ _ rfl (HR2.out.set2 _ _) Try.underlying39 rfl infoAmount) rfl ?_
  refine ⟨rfl, fun x e => ?_, HF.out _ _⟩
  cases e
  obtain ⟨s1, s2⟩ := HS.out eb rfl
  exact ⟨(cell_apart (by omega)).trans ((cell_apart (by omega)).trans s1), (frozen_apart (by omega)).trans ((frozen_apart (by omega)).trans s2)⟩

def errW (b : Bool) : Int := if b then 191 else 0
theorem errW_sb (b : Bool) : sb b 0 = errW b := rfl
set_option maxRecDepth 10000 in
theorem bound_any (t : Nd) (v : Value) (w : World) (hv : NV w.heap.size w t v) (hs : t.sz ≤ 100000000) :
    Calls Try.prog 12 #[v] w fun e w' => e = .returned (.int .i64 (errW (badN t))) ∧ Below w.heap.size w w' := by
  obtain ⟨k, m, a, b, g, n, st, ks, sa, sc, ao, cap, rfl, rfl, _⟩ := hv.open
  generalize st.length = sl at *
  generalize ks.length = nk at *
  have C := up_bound (w.heap.size + 1) _ _ 0 w.heap.size ((w.alloc (.cells #[.int .i64 k, .int .i64 m, .int .i64 a, .int .i64 b, .bool g, .string n, .slice sa sl sc, .slice ao nk cap] 25)).alloc (.cells #[.int .i64 0] 31)) (hv.keep (below2 _ _ _)) (by omega) (by simp) (fun x e => (by cases e; exact ⟨bk2.cell 0 rfl, bk2.frozen 0⟩)) hs
  have HB : Hid (Below w.heap.size w ((w.alloc (.cells #[.int .i64 k, .int .i64 m, .int .i64 a, .int .i64 b, .bool g, .string n, .slice sa sl sc, .slice ao nk cap] 25)).alloc (.cells #[.int .i64 0] 31))) := below2 _ _ _
  rw [errW_sb] at C
  obtain ⟨q, hq⟩ : ∃ q, errW (badN (.mk k m a b g n st ks)) = q := ⟨_, rfl⟩
  rw [hq] at C ⊢
  clear hv hq
  go_enter Try.func12, Try.ntmps12
  go_wp2_with (go_at_call 16; refine C.mono ?_; rintro e w1 ⟨rfl, s', d⟩; have c0 := (s' (w.heap.size + 1) rfl).1; have HF : Hid (Below w.heap.size w w1) := HB.out.trans (d.below (by simp; omega) (fun x e => by cases e; omega)); clear d s')
  go_ret
  exact ⟨rfl, HF.out⟩
end Go.Proofs.Ytjblccgkocknbaa.wid
