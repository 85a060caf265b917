/- compile.own, walk.Up over the maker. -/
import Derived.Test.YtjbcapnpknbbaaaGreatCmpFrom
import Derived.Deep.RegionHeld3
import Derived.Deep.RegionWith
import Derived.Deep.LoopGhost
import Derived.Deep.CutBlock
import Derived.Lib.SliceRun
set_option linter.unusedVariables false
set_option linter.unusedSimpArgs false
namespace Go.Proofs.YtjbcapnpknbbaaaGreat.cmp
open Go.RowKit nod
open Go.Proofs.YtjbcapnpknbbaaaGreat.wid (ofN)
open Go.Proofs.YtjbcapnpknbbaaaGreat.low (standP kidsP)
open Go.Proofs.YtjbcapnpknbbaaaGreat.rng (R RV info_parts)

open Go.Proofs.YtjbcapnpknbbaaaGreat.low (plN plL plL_all len_szL setsN setsL)
/-- A slice of the call's own that reads as a set. -/
def QN (w : World) (lo : Nat) (s : SV) (l : List R) : Prop := RV w s.1 l ∧ s.2.1 = l.length ∧ (∀ x, s.1 = some x → lo ≤ x.block ∧ x.block < w.heap.size) ∧ (s.1 = none → s.2.2 = 0)
theorem rv_keep {w w' : World} {sa : Option Addr} {l : List R} (h : RV w sa l) (hb : ∀ x, sa = some x → w'.heap[x.block]? = w.heap[x.block]?) : RV w' sa l := by
  rcases h with h | ⟨b, off, rfl, h⟩
  · exact .inl h
  · refine .inr ⟨b, off, rfl, fun i p hi => ?_⟩
    obtain ⟨h1, h2⟩ := h i p hi
    have e := hb _ rfl
    exact ⟨(World.cell?_of_block (a := ⟨b, off + i * 2, none⟩) e).trans h1, (World.cell?_of_block (a := ⟨b, off + i * 2 + 1, none⟩) e).trans h2⟩
theorem QN.on {w w' : World} {lo : Nat} {s : SV} {l : List R} (h : QN w lo s l) (hb : Below w.heap.size w w') : QN w' lo s l := ⟨h.1.below hb, h.2.1, fun x e => ⟨(h.2.2.1 x e).1, Nat.lt_of_lt_of_le (h.2.2.1 x e).2 hb.size⟩, h.2.2.2⟩
theorem QN.wide {w : World} {lo lo' : Nat} {s : SV} {l : List R} (h : QN w lo s l) (hl : lo' ≤ lo) : QN w lo' s l := ⟨h.1, h.2.1, fun x e => ⟨Nat.le_trans hl (h.2.2.1 x e).1, (h.2.2.1 x e).2⟩, h.2.2.2⟩
theorem QN.set {w : World} {lo b : Nat} {s : SV} {l : List R} (h : QN w lo s l) (hb : b < lo) (i : Nat) (u : Value) : QN (w.setCell ⟨b, i, none⟩ u) lo s l :=
  ⟨rv_keep h.1 fun x e => Below.heap_setCell _ _ _ _ (fun e2 => by have h1 := (h.2.2.1 x e).1; simp only at e2; omega), h.2.1, fun x e => ⟨(h.2.2.1 x e).1, by simpa [World.setCell] using (h.2.2.1 x e).2⟩, h.2.2.2⟩
theorem qn_nil (w : World) (lo : Nat) : QN w lo sn [] := ⟨.inl rfl, rfl, fun x e => (by cases e), fun _ => rfl⟩
theorem own_nil {w : World} {B n cap : Nat} {ao : Option Addr} {l : List R} (h : rng.Own w B (.slice ao n cap) l) : ao = none → cap = 0 := by
  rintro rfl
  rcases h.2 with ⟨e, _⟩ | ⟨g, c, cur, e, _⟩
  · cases e; rfl
  · cases e
set_option maxHeartbeats 1000000 in
set_option maxRecDepth 1000000 in
theorem clone_own (x : Addr) (cap : Nat) (l : List R) (w : World) (hv : RV w (some x) l) (hn : l.length ≤ 8796093021952) :
    Calls Tryz.prog 84 #[.slice (some x) l.length cap] w fun e w' => ∃ v', e = .returned v' ∧ rng.Own w' w.heap.size v' l ∧ Below w.heap.size w w' := by
  obtain ⟨i0, hi, hz0, hz1, hz2⟩ := info_parts rng.infoRange
  have HV : Hid (∀ (j : Nat) u, (rng.flat l)[j]? = some u → w.cell? (x.add j) = some u) := rng.rv_news hv
  obtain ⟨n, hl⟩ : ∃ n, l.length = n := ⟨_, rfl⟩
  have HL : Hid (l.length = n) := hl
  rw [hl] at hn ⊢
  clear hv hl
  go_enter Tryz.func84, Tryz.ntmps84
  go_wp2_with fail
  rw [Lib.run_eql_slice_nil _ _ _ _ _ _ _ _ Tryz.underlying22]
  go_wp2_with (at_builtin; refine wpList_append_own _ rfl _ _ 22 rfl w.heap.size 44 i0 (.agg #[.int .i64 0, .int .i64 0]) 2 16 Tryz.underlying22 hi hz0 hz1 hz2 rfl (by decide) _ _ _ rfl (World.ownsRow_made w #[] 0 (Nat.le_refl _) (by decide) rfl) x n cap (rng.flat l) rfl (by rw [rng.flat_length, HL.out]) (fun j u hj => (World.grownBy_alloc w _ none).cell (HV.out j u hj) (by simp)) (rng.flat_one l) (by unfold maxLen; omega) (by omega) (by simp) ?_)
  intro v' w3 hown hgrow _
  have bb : Below w.heap.size w w3 := ((Below.refl w.heap.size w).alloc (Nat.le_refl _) _).grown hgrow (by simp) (fun k e => by cases e; exact Nat.le_refl _)
  have HO : Hid (rng.Own w3 w.heap.size v' l) := by
    unfold Hid rng.Own; rw [HL.out]; simpa using hown
  clear hgrow hown HV
  go_wp2
  go_ret
  exact ⟨_, rfl, HO.out, bb⟩
set_option maxRecDepth 10000 in
set_option maxHeartbeats 16000000 in
theorem own_any (s : SV) (l : List R) (w : World) (h1 : RV w s.1 l) (h2 : s.2.1 = l.length) (h3 : s.1 = none → s.2.2 = 0) (hn : l.length ≤ 8796093021952) :
    Calls Tryz.prog 57 #[.slice s.1 s.2.1 s.2.2] w fun e w' => ∃ r : SV, e = .returned (.slice r.1 r.2.1 r.2.2) ∧ QN w' w.heap.size r l ∧ Below w.heap.size w w' := by
  obtain ⟨sa, sl, sc⟩ := s
  simp only at *
  subst h2
  by_cases h0 : l.length = 0
  · obtain rfl : l = [] := List.length_eq_zero_iff.1 h0
    simp only [List.length_nil]
    clear h0 h1 h3 hn
    go_enter Tryz.func57, Tryz.ntmps57
    go_wp2
    go_ret
    exact ⟨sn, rfl, qn_nil _ _, Below.refl _ _⟩
  · obtain ⟨b, off, rfl, hc⟩ := h1.some (by omega)
    have C := clone_own ⟨b, off, none⟩ sc l w h1 hn
    have z0 : ((l.length : Int) == 0) = false := beq_eq_false_iff_ne.2 (by omega)
    clear h0 h1 h3 hc hn
    go_enter Tryz.func57, Tryz.ntmps57
    go_wp2_with (go_at_call 84; refine C.mono ?_; rintro e w2 ⟨v', rfl, ho, b2⟩; obtain ⟨ao, cap, rfl, hv, hcap, hmx⟩ := rng.Own.view ho; have hnil := own_nil ho; have HQ : Hid (QN w2 w.heap.size (ao, l.length, cap) l) := ⟨hv, rfl, fun x e => (ho.lt x.block (by have e' : ao = some x := e; rw [e']; rfl)), hnil⟩; have HB : Hid (Below w.heap.size w w2) := b2; clear ho hv hcap hnil hmx b2 C)
    go_ret
    exact ⟨(ao, l.length, cap), rfl, HQ.out, HB.out⟩
set_option maxRecDepth 10000 in
set_option maxHeartbeats 16000000 in
theorem up_pc (mb : Nat) (t : Nd) (v : Value) (l d : Int) (B : Nat) (w : World) (hv : NV B w t v) (hBm : B ≤ mb) (hmb : mb < w.heap.size) (hbk : Bk w mb #[.int .i64 l] 94) (hpl : plN t d = true) (hsets : setsN t) (hl0 : 0 ≤ l) (hl1 : l ≤ 1000000) (hsz : t.sz ≤ 900) :
    Calls Tryz.prog 51 #[v, .func (.func 52) #[.pointer (some ⟨mb, 0, none⟩)] #[], .func (.func 53) #[.pointer (some ⟨mb, 0, none⟩)] #[]] w fun e w' => ∃ (r : Pp) (l' : Int), e = .returned (.agg #[.slice r.ka r.kn r.kc, .int .i64 r.p.2]) ∧ PV w' w.heap.size r ∧ Kp (some mb) w w' ∧ Bk w' mb #[.int .i64 l'] 94 ∧ 0 ≤ l' ∧ l' ≤ 1000000 ∧ Out B w t l l' r.p := by
  obtain ⟨k, m, a, b, g, s, st, ks, sa, sc, ao, cap, rfl, rfl, _⟩ := hv.open
  generalize st.length = sl at *
  generalize ks.length = nk at *
  have HBW : Hid (Below w.heap.size w ((w.alloc (.cells #[.int .i64 k, .int .i64 m, .int .i64 a, .int .i64 b, .bool g, .string s, .slice sa sl sc, .slice ao nk cap] 25)).alloc (.cells #[.slice none 0 0, .int .i64 0] 55))) := below2 _ _ _
  have HX : Hid (Bk ((w.alloc (.cells #[.int .i64 k, .int .i64 m, .int .i64 a, .int .i64 b, .bool g, .string s, .slice sa sl sc, .slice ao nk cap] 25)).alloc (.cells #[.slice none 0 0, .int .i64 0] 55)) w.heap.size #[.int .i64 k, .int .i64 m, .int .i64 a, .int .i64 b, .bool g, .string s, .slice sa sl sc, .slice ao nk cap] 25) := (Bk.new w _ _).past _
  have HR : Hid (Bk ((w.alloc (.cells #[.int .i64 k, .int .i64 m, .int .i64 a, .int .i64 b, .bool g, .string s, .slice sa sl sc, .slice ao nk cap] 25)).alloc (.cells #[.slice none 0 0, .int .i64 0] 55)) (w.heap.size + 1) #[.slice none 0 0, .int .i64 0] 55) := bk2
  have hz : ((w.alloc (.cells #[.int .i64 k, .int .i64 m, .int .i64 a, .int .i64 b, .bool g, .string s, .slice sa sl sc, .slice ao nk cap] 25)).alloc (.cells #[.slice none 0 0, .int .i64 0] 55)).heap.size = w.heap.size + 1 + 1 := by simp
  have C := from_pc mb _ _ _ 0 l d B ((w.alloc (.cells #[.int .i64 k, .int .i64 m, .int .i64 a, .int .i64 b, .bool g, .string s, .slice sa sl sc, .slice ao nk cap] 25)).alloc (.cells #[.slice none 0 0, .int .i64 0] 55)) (Nat.le_refl _) (hv.keep (below_less HBW.out (by omega))) hBm (by simp; omega) ((hbk.past _).past _) hpl hsets hl0 hl1 (by omega) (by omega) hsz
  obtain ⟨w1, hw1⟩ : ∃ w1, ((w.alloc (.cells #[.int .i64 k, .int .i64 m, .int .i64 a, .int .i64 b, .bool g, .string s, .slice sa sl sc, .slice ao nk cap] 25)).alloc (.cells #[.slice none 0 0, .int .i64 0] 55)) = w1 := ⟨_, rfl⟩
  have HW1 : Hid (((w.alloc (.cells #[.int .i64 k, .int .i64 m, .int .i64 a, .int .i64 b, .bool g, .string s, .slice sa sl sc, .slice ao nk cap] 25)).alloc (.cells #[.slice none 0 0, .int .i64 0] 55)) = w1) := hw1
  rw [hw1] at HBW HX HR hz C
  clear hw1 hv hbk hpl hsets
  go_enter Tryz.func51, Tryz.ntmps51
  go_wp2_with (go_at_call 80; rw [HW1.out]; refine C.mono ?_; rintro e w3 ⟨r, l', rfl, hv, hk, hb, g0, g1, hou⟩; have HC3 : Hid (PV w3 w1.heap.size r ∧ Kp (some mb) w1 w3 ∧ Bk w3 mb #[.int .i64 l'] 94 ∧ 0 ≤ l' ∧ l' ≤ 1000000 ∧ Out B w1 (.mk k m a b g s st ks) l l' r.p) := ⟨hv, hk, hb, g0, g1, hou⟩; have HR3 : Hid (Bk w3 (w.heap.size + 1) #[.slice none 0 0, .int .i64 0] 55) := HR.out.kp hk (fun e => by cases e; omega); have t0 := HR3.out.cell 0 (u := .slice none 0 0) rfl; have t1 := HR3.out.cell 1 (u := .int .i64 0) rfl; have f0 := HR3.out.frozen 0; have f1 := HR3.out.frozen 1; clear hv hk hb g0 g1 hou C)
  refine bodyPost_ret (results_cell_row Tryz.results51 _ _ (w.heap.size + 1) _ #[.slice r.ka r.kn r.kc, .int .i64 r.p.2] _ _ rfl (HR3.out.set2 _ _) Tryz.underlying55 rfl infP) rfl ?_
  obtain ⟨hv, hk, hb, g0, g1, hou⟩ := HC3.out
  exact ⟨r, l', rfl, ((hv.set (by omega) 0 _).set (by omega) 1 _).wide (by omega), (((Kp.of_below HBW.out).trans hk).setCell (p := ⟨w.heap.size + 1, 0, none⟩) (.inl (by simp)) _).setCell (p := ⟨w.heap.size + 1, 1, none⟩) (.inl (by simp)) _, ((hb.apart (by omega) _).apart (by omega) _), g0, g1, hou.back (below_less HBW.out (by omega))⟩
end Go.Proofs.YtjbcapnpknbbaaaGreat.cmp
