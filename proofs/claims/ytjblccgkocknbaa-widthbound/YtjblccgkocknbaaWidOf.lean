/- width.Of, and whether it is awake. -/
import Derived.Test.YtjblccgkocknbaaWidFrom
import Derived.Test.YtjblccgkocknbaaNodLaid
set_option linter.unusedVariables false
set_option linter.unusedSimpArgs false
namespace Go.Proofs.Ytjblccgkocknbaa.wid
open Go.RowKit
open Go.Proofs.Ytjblccgkocknbaa.nod
open Go.Proofs.Ytjblccgkocknbaa.rng (R RV ret_int ret_bool below_drewN info_parts own_below')

set_option maxRecDepth 10000 in
theorem up_of (t : Nd) (v : Value) (w : World) (hv : NV w.heap.size w t v) (hs : t.sz ≤ 100000000) :
    Calls Try.prog 16 #[v, .func (.func 17) #[] #[], .func (.func 18) #[] #[]] w fun e w' => e = .returned (agg2 (ofN t)) ∧ Below w.heap.size w w' := by
  obtain ⟨k, m, a, b, g, n, s, ks, sa, sc, ao, cap, rfl, rfl, _⟩ := hv.open
  generalize s.length = sl at *
  generalize ks.length = nk at *
  obtain ⟨r, hr⟩ : ∃ r, ofN (.mk k m a b g n s ks) = r := ⟨_, rfl⟩
  obtain ⟨r1, r2⟩ := r
  have C := from_of _ _ _ 0 0 w.heap.size ((w.alloc (.cells #[.int .i64 k, .int .i64 m, .int .i64 a, .int .i64 b, .bool g, .string n, .slice sa sl sc, .slice ao nk cap] 25)).alloc (.cells #[.int .i64 0, .int .i64 0] 39)) (Nat.le_refl _) (hv.keep (below2 _ _ _)) (by simp; omega) (fun x e => by cases e) (St.none _ _) (by omega) (by omega)
  have HB : Hid (Below w.heap.size w ((w.alloc (.cells #[.int .i64 k, .int .i64 m, .int .i64 a, .int .i64 b, .bool g, .string n, .slice sa sl sc, .slice ao nk cap] 25)).alloc (.cells #[.int .i64 0, .int .i64 0] 39))) := below2 _ _ _
  have HR : Hid (Bk ((w.alloc (.cells #[.int .i64 k, .int .i64 m, .int .i64 a, .int .i64 b, .bool g, .string n, .slice sa sl sc, .slice ao nk cap] 25)).alloc (.cells #[.int .i64 0, .int .i64 0] 39)) (w.heap.size + 1) #[.int .i64 0, .int .i64 0] 39) := bk2
  rw [hr] at C ⊢
  clear hv hr
  go_enter Try.func16, Try.ntmps16
  go_wp2_with (go_at_call 27; refine C.mono ?_; rintro e w1 ⟨rfl, _, d'⟩; have d := d'.none; have b0 := HR.out.keep d (by simp); have c0 := b0.cell 0 (u := .int .i64 0) rfl; have c1 := b0.cell 1 (u := .int .i64 0) rfl; have c2 := b0.frozen 0; have c3 := b0.frozen 1; have HR2 : Hid (Bk w1 (w.heap.size + 1) #[.int .i64 0, .int .i64 0] 39) := b0; have HF : Hid (∀ X Y, Below w.heap.size w ((w1.setCell ⟨w.heap.size + 1, 0, none⟩ X).setCell ⟨w.heap.size + 1, 1, none⟩ Y)) := fun X Y => ((HB.out.trans (below_less d (by simp; omega))).setCell (p := ⟨w.heap.size + 1, 0, none⟩) (by simp) X).setCell (p := ⟨w.heap.size + 1, 1, none⟩) (by simp) Y; clear d d' b0)
  refine bodyPost_ret (results_cell_row Try.results16 _ _ (w.heap.size + 1) _ #[.int .i64 r1, .int .i64 r2] _ _ rfl (HR2.out.set2 _ _) Try.underlying39 rfl infoAmount) rfl ?_
  exact ⟨rfl, HF.out _ _⟩

set_option maxRecDepth 10000 in
theorem of_any (t : Nd) (v : Value) (w : World) (hv : NV w.heap.size w t v) (hs : t.sz ≤ 100000000) :
    Calls Try.prog 10 #[v] w fun e w' => e = .returned (.tuple #[.int .i64 (ofN t).1, .int .i64 (ofN t).2]) ∧ Below w.heap.size w w' := by
  obtain ⟨k, m, a, b, g, n, s, ks, sa, sc, ao, cap, rfl, rfl, _⟩ := hv.open
  generalize s.length = sl at *
  generalize ks.length = nk at *
  have B1 : Below w.heap.size w (w.alloc (.cells #[.int .i64 k, .int .i64 m, .int .i64 a, .int .i64 b, .bool g, .string n, .slice sa sl sc, .slice ao nk cap] 25)) := (Below.refl _ w).alloc (Nat.le_refl _) _
  have C := up_of _ _ (w.alloc (.cells #[.int .i64 k, .int .i64 m, .int .i64 a, .int .i64 b, .bool g, .string n, .slice sa sl sc, .slice ao nk cap] 25)) ((hv.keep B1).wide (by simp)) hs
  have HB : Hid (Below w.heap.size w _) := B1
  obtain ⟨r, hr⟩ : ∃ r, ofN (.mk k m a b g n s ks) = r := ⟨_, rfl⟩
  obtain ⟨r1, r2⟩ := r
  rw [hr] at C ⊢
  clear hv hr B1
  go_enter Try.func10, Try.ntmps10
  go_wp2_with (go_at_call 16; refine C.mono ?_; rintro e w1 ⟨rfl, d⟩; have HF : Hid (∀ o, Below w.heap.size w (w1.alloc o)) := fun o => (HB.out.trans (below_less d (by simp))).alloc (by have := d.size; simp at this; omega) o; clear d)
  go_region
  all_goals (try go_wp2)
  all_goals go_ret2
  all_goals exact ⟨rfl, (HF.out _).drew⟩

theorem awake_any (w : World) : Calls Try.prog 9 #[] w fun e w' => e = .returned (.bool true) ∧ Below w.heap.size w w' := by
  have K := kv_one 25 (nv_leaf w.heap.size w 15 0 0 0 false ByteArray.empty (by unfold I64; omega) (by unfold I64; omega) (by unfold I64; omega) (by unfold I64; omega) (by simp)) (Nat.le_refl _)
  have V := NV.shut (k := 8) (m := 0) (a := 2) (b := 3) (g := false) (n := ByteArray.empty) (s := []) (sa := none) (sc := 0) (cap := 1) (by unfold I64; omega) (by simp) ⟨.inl rfl, fun x e => (by cases e), by simp, by simp, fun _ => rfl⟩ ⟨by simp, by unfold maxLen; omega, fun e => by cases e⟩ K
  have C := of_any _ _ _ (V.wide (by simp)) (by decide)
  have HB : Hid (Below w.heap.size w (w.alloc (.cells #[.int .i64 15, .int .i64 0, .int .i64 0, .int .i64 0, .bool false, .string ByteArray.empty, .slice none 0 0, .slice none 0 0] 25))) := (Below.refl _ w).alloc (Nat.le_refl _) _
  have e1 : (ofN (.mk 8 0 2 3 false ByteArray.empty [] [.mk 15 0 0 0 false ByteArray.empty [] []])) = (2, 3) := by
    rw [rep_one, ofN_mk]; rfl
  rw [e1] at C
  simp only [List.length_nil, List.length_singleton] at C
  clear K V e1
  go_enter Try.func9, Try.ntmps9
  go_wp2_with (go_at_call 10; refine C.mono ?_; rintro e w1 ⟨rfl, d⟩; have HF : Hid (Below w.heap.size w w1) := HB.out.trans (below_less d (by simp)); clear d)
  go_ret
  exact ⟨rfl, HF.out⟩
end Go.Proofs.Ytjblccgkocknbaa.wid
