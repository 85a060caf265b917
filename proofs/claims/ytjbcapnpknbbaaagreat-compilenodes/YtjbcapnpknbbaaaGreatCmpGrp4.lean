/- groupsOf, list. -/
import Derived.Test.YtjbcapnpknbbaaaGreatBndCmpNone
import Derived.Deep.RegionHeld3
import Derived.Deep.RegionWith
import Derived.Deep.LoopGhost
import Derived.Deep.CutBlock
import Derived.Lib.SliceRun
import Derived.Laws.CopyOwn
set_option linter.unusedVariables false
set_option linter.unusedSimpArgs false
namespace Go.Proofs.YtjbcapnpknbbaaaGreat.cmp
open Go.RowKit nod
open Go.Proofs.YtjbcapnpknbbaaaGreat.wid (ofN)
open Go.Proofs.YtjbcapnpknbbaaaGreat.low (standP kidsP)
open Go.Proofs.YtjbcapnpknbbaaaGreat.rng (R RV info_parts)

open Go.Proofs.YtjbcapnpknbbaaaGreat.low (plN plL plL_all len_szL setsN setsL)
theorem infG : (Tryz.prog.info? 51).map (·.size) = some 45 := by kernel_rfl
/-- Nothing said yet. -/
def G0 : Gr := ⟨0, 0, false, List.replicate 21 false, List.replicate 21 { data := #[] }⟩
theorem zl_eq : (#[.int .i64 0, .int .i64 0, .bool false, .bool false, .bool false, .bool false, .bool false, .bool false, .bool false, .bool false, .bool false, .bool false, .bool false, .bool false, .bool false, .bool false, .bool false, .bool false, .bool false, .bool false, .bool false, .bool false, .bool false, .bool false, .string { data := #[] }, .string { data := #[] }, .string { data := #[] }, .string { data := #[] }, .string { data := #[] }, .string { data := #[] }, .string { data := #[] }, .string { data := #[] }, .string { data := #[] }, .string { data := #[] }, .string { data := #[] }, .string { data := #[] }, .string { data := #[] }, .string { data := #[] }, .string { data := #[] }, .string { data := #[] }, .string { data := #[] }, .string { data := #[] }, .string { data := #[] }, .string { data := #[] }, .string { data := #[] }] : Array Value) = (gcells G0).toArray := by kernel_rfl
theorem gcells_len {G : Gr} (h1 : G.there.length = 21) (h2 : G.names.length = 21) : (gcells G).toArray.size = 45 := by simp [gcells, h1, h2]
theorem gcells_one (G : Gr) : (gcells G).toArray.all (·.oneCell') = true := by
  rw [Array.all_eq_true_iff_forall_mem]
  intro v hv
  have hv2 : v ∈ gcells G := by simpa using hv
  rw [gcells] at hv2
  rcases List.mem_cons.1 hv2 with rfl | h
  · rfl
  · rcases List.mem_cons.1 h with rfl | h
    · rfl
    · rcases List.mem_cons.1 h with rfl | h
      · rfl
      · rcases List.mem_append.1 h with h | h <;> (obtain ⟨x, _, rfl⟩ := List.mem_map.1 h; rfl)
set_option maxRecDepth 10000 in
set_option maxHeartbeats 16000000 in
theorem gOf_any (t : Nd) (v : Value) (d : Int) (B : Nat) (w : World) (hv : NV B w t v) (hB : B ≤ w.heap.size) (hpl : plN t d = true) (hsz : t.sz ≤ 900) :
    Calls Tryz.prog 15 #[v] w fun e w' => e = .returned (.agg (gcells (gN t G0)).toArray) ∧ (gN t G0).there.length = 21 ∧ (gN t G0).names.length = 21 ∧ Below w.heap.size w w' := by
  obtain ⟨k, m, a, b, g, s, st, ks, sa, sc, ao, cap, rfl, rfl, _⟩ := hv.open
  generalize st.length = sl at *
  generalize ks.length = nk at *
  have HBW : Hid (Below w.heap.size w (((w.alloc (.cells #[.int .i64 k, .int .i64 m, .int .i64 a, .int .i64 b, .bool g, .string s, .slice sa sl sc, .slice ao nk cap] 25)).alloc (.cells #[.int .i64 0, .int .i64 0, .bool false, .bool false, .bool false, .bool false, .bool false, .bool false, .bool false, .bool false, .bool false, .bool false, .bool false, .bool false, .bool false, .bool false, .bool false, .bool false, .bool false, .bool false, .bool false, .bool false, .bool false, .bool false, .string { data := #[] }, .string { data := #[] }, .string { data := #[] }, .string { data := #[] }, .string { data := #[] }, .string { data := #[] }, .string { data := #[] }, .string { data := #[] }, .string { data := #[] }, .string { data := #[] }, .string { data := #[] }, .string { data := #[] }, .string { data := #[] }, .string { data := #[] }, .string { data := #[] }, .string { data := #[] }, .string { data := #[] }, .string { data := #[] }, .string { data := #[] }, .string { data := #[] }, .string { data := #[] }] 51)).alloc (.cells #[.int .i64 0, .int .i64 0, .bool false, .bool false, .bool false, .bool false, .bool false, .bool false, .bool false, .bool false, .bool false, .bool false, .bool false, .bool false, .bool false, .bool false, .bool false, .bool false, .bool false, .bool false, .bool false, .bool false, .bool false, .bool false, .string { data := #[] }, .string { data := #[] }, .string { data := #[] }, .string { data := #[] }, .string { data := #[] }, .string { data := #[] }, .string { data := #[] }, .string { data := #[] }, .string { data := #[] }, .string { data := #[] }, .string { data := #[] }, .string { data := #[] }, .string { data := #[] }, .string { data := #[] }, .string { data := #[] }, .string { data := #[] }, .string { data := #[] }, .string { data := #[] }, .string { data := #[] }, .string { data := #[] }, .string { data := #[] }] 51))) := (below2 _ _ _).alloc (by simp; omega) _
  have HX : Hid (Bk (((w.alloc (.cells #[.int .i64 k, .int .i64 m, .int .i64 a, .int .i64 b, .bool g, .string s, .slice sa sl sc, .slice ao nk cap] 25)).alloc (.cells #[.int .i64 0, .int .i64 0, .bool false, .bool false, .bool false, .bool false, .bool false, .bool false, .bool false, .bool false, .bool false, .bool false, .bool false, .bool false, .bool false, .bool false, .bool false, .bool false, .bool false, .bool false, .bool false, .bool false, .bool false, .bool false, .string { data := #[] }, .string { data := #[] }, .string { data := #[] }, .string { data := #[] }, .string { data := #[] }, .string { data := #[] }, .string { data := #[] }, .string { data := #[] }, .string { data := #[] }, .string { data := #[] }, .string { data := #[] }, .string { data := #[] }, .string { data := #[] }, .string { data := #[] }, .string { data := #[] }, .string { data := #[] }, .string { data := #[] }, .string { data := #[] }, .string { data := #[] }, .string { data := #[] }, .string { data := #[] }] 51)).alloc (.cells #[.int .i64 0, .int .i64 0, .bool false, .bool false, .bool false, .bool false, .bool false, .bool false, .bool false, .bool false, .bool false, .bool false, .bool false, .bool false, .bool false, .bool false, .bool false, .bool false, .bool false, .bool false, .bool false, .bool false, .bool false, .bool false, .string { data := #[] }, .string { data := #[] }, .string { data := #[] }, .string { data := #[] }, .string { data := #[] }, .string { data := #[] }, .string { data := #[] }, .string { data := #[] }, .string { data := #[] }, .string { data := #[] }, .string { data := #[] }, .string { data := #[] }, .string { data := #[] }, .string { data := #[] }, .string { data := #[] }, .string { data := #[] }, .string { data := #[] }, .string { data := #[] }, .string { data := #[] }, .string { data := #[] }, .string { data := #[] }] 51)) w.heap.size #[.int .i64 k, .int .i64 m, .int .i64 a, .int .i64 b, .bool g, .string s, .slice sa sl sc, .slice ao nk cap] 25) := ((Bk.new w _ _).past _).past _
  have HR : Hid (Bk (((w.alloc (.cells #[.int .i64 k, .int .i64 m, .int .i64 a, .int .i64 b, .bool g, .string s, .slice sa sl sc, .slice ao nk cap] 25)).alloc (.cells #[.int .i64 0, .int .i64 0, .bool false, .bool false, .bool false, .bool false, .bool false, .bool false, .bool false, .bool false, .bool false, .bool false, .bool false, .bool false, .bool false, .bool false, .bool false, .bool false, .bool false, .bool false, .bool false, .bool false, .bool false, .bool false, .string { data := #[] }, .string { data := #[] }, .string { data := #[] }, .string { data := #[] }, .string { data := #[] }, .string { data := #[] }, .string { data := #[] }, .string { data := #[] }, .string { data := #[] }, .string { data := #[] }, .string { data := #[] }, .string { data := #[] }, .string { data := #[] }, .string { data := #[] }, .string { data := #[] }, .string { data := #[] }, .string { data := #[] }, .string { data := #[] }, .string { data := #[] }, .string { data := #[] }, .string { data := #[] }] 51)).alloc (.cells #[.int .i64 0, .int .i64 0, .bool false, .bool false, .bool false, .bool false, .bool false, .bool false, .bool false, .bool false, .bool false, .bool false, .bool false, .bool false, .bool false, .bool false, .bool false, .bool false, .bool false, .bool false, .bool false, .bool false, .bool false, .bool false, .string { data := #[] }, .string { data := #[] }, .string { data := #[] }, .string { data := #[] }, .string { data := #[] }, .string { data := #[] }, .string { data := #[] }, .string { data := #[] }, .string { data := #[] }, .string { data := #[] }, .string { data := #[] }, .string { data := #[] }, .string { data := #[] }, .string { data := #[] }, .string { data := #[] }, .string { data := #[] }, .string { data := #[] }, .string { data := #[] }, .string { data := #[] }, .string { data := #[] }, .string { data := #[] }] 51)) (w.heap.size + 1) (gcells G0).toArray 51) := by
    unfold Hid; rw [← zl_eq]; exact bk2.past _
  have HG0 : Hid (GB (((w.alloc (.cells #[.int .i64 k, .int .i64 m, .int .i64 a, .int .i64 b, .bool g, .string s, .slice sa sl sc, .slice ao nk cap] 25)).alloc (.cells #[.int .i64 0, .int .i64 0, .bool false, .bool false, .bool false, .bool false, .bool false, .bool false, .bool false, .bool false, .bool false, .bool false, .bool false, .bool false, .bool false, .bool false, .bool false, .bool false, .bool false, .bool false, .bool false, .bool false, .bool false, .bool false, .string { data := #[] }, .string { data := #[] }, .string { data := #[] }, .string { data := #[] }, .string { data := #[] }, .string { data := #[] }, .string { data := #[] }, .string { data := #[] }, .string { data := #[] }, .string { data := #[] }, .string { data := #[] }, .string { data := #[] }, .string { data := #[] }, .string { data := #[] }, .string { data := #[] }, .string { data := #[] }, .string { data := #[] }, .string { data := #[] }, .string { data := #[] }, .string { data := #[] }, .string { data := #[] }] 51)).alloc (.cells #[.int .i64 0, .int .i64 0, .bool false, .bool false, .bool false, .bool false, .bool false, .bool false, .bool false, .bool false, .bool false, .bool false, .bool false, .bool false, .bool false, .bool false, .bool false, .bool false, .bool false, .bool false, .bool false, .bool false, .bool false, .bool false, .string { data := #[] }, .string { data := #[] }, .string { data := #[] }, .string { data := #[] }, .string { data := #[] }, .string { data := #[] }, .string { data := #[] }, .string { data := #[] }, .string { data := #[] }, .string { data := #[] }, .string { data := #[] }, .string { data := #[] }, .string { data := #[] }, .string { data := #[] }, .string { data := #[] }, .string { data := #[] }, .string { data := #[] }, .string { data := #[] }, .string { data := #[] }, .string { data := #[] }, .string { data := #[] }] 51)) (w.heap.size + 1 + 1) G0) := by
    refine ⟨?_, rfl, rfl⟩
    rw [← zl_eq]
    have := Bk.new ((w.alloc (.cells #[.int .i64 k, .int .i64 m, .int .i64 a, .int .i64 b, .bool g, .string s, .slice sa sl sc, .slice ao nk cap] 25)).alloc (.cells #[.int .i64 0, .int .i64 0, .bool false, .bool false, .bool false, .bool false, .bool false, .bool false, .bool false, .bool false, .bool false, .bool false, .bool false, .bool false, .bool false, .bool false, .bool false, .bool false, .bool false, .bool false, .bool false, .bool false, .bool false, .bool false, .string { data := #[] }, .string { data := #[] }, .string { data := #[] }, .string { data := #[] }, .string { data := #[] }, .string { data := #[] }, .string { data := #[] }, .string { data := #[] }, .string { data := #[] }, .string { data := #[] }, .string { data := #[] }, .string { data := #[] }, .string { data := #[] }, .string { data := #[] }, .string { data := #[] }, .string { data := #[] }, .string { data := #[] }, .string { data := #[] }, .string { data := #[] }, .string { data := #[] }, .string { data := #[] }] 51)) #[.int .i64 0, .int .i64 0, .bool false, .bool false, .bool false, .bool false, .bool false, .bool false, .bool false, .bool false, .bool false, .bool false, .bool false, .bool false, .bool false, .bool false, .bool false, .bool false, .bool false, .bool false, .bool false, .bool false, .bool false, .bool false, .string { data := #[] }, .string { data := #[] }, .string { data := #[] }, .string { data := #[] }, .string { data := #[] }, .string { data := #[] }, .string { data := #[] }, .string { data := #[] }, .string { data := #[] }, .string { data := #[] }, .string { data := #[] }, .string { data := #[] }, .string { data := #[] }, .string { data := #[] }, .string { data := #[] }, .string { data := #[] }, .string { data := #[] }, .string { data := #[] }, .string { data := #[] }, .string { data := #[] }, .string { data := #[] }] 51
    simpa using this
  have hz : ((((w.alloc (.cells #[.int .i64 k, .int .i64 m, .int .i64 a, .int .i64 b, .bool g, .string s, .slice sa sl sc, .slice ao nk cap] 25)).alloc (.cells #[.int .i64 0, .int .i64 0, .bool false, .bool false, .bool false, .bool false, .bool false, .bool false, .bool false, .bool false, .bool false, .bool false, .bool false, .bool false, .bool false, .bool false, .bool false, .bool false, .bool false, .bool false, .bool false, .bool false, .bool false, .bool false, .string { data := #[] }, .string { data := #[] }, .string { data := #[] }, .string { data := #[] }, .string { data := #[] }, .string { data := #[] }, .string { data := #[] }, .string { data := #[] }, .string { data := #[] }, .string { data := #[] }, .string { data := #[] }, .string { data := #[] }, .string { data := #[] }, .string { data := #[] }, .string { data := #[] }, .string { data := #[] }, .string { data := #[] }, .string { data := #[] }, .string { data := #[] }, .string { data := #[] }, .string { data := #[] }] 51)).alloc (.cells #[.int .i64 0, .int .i64 0, .bool false, .bool false, .bool false, .bool false, .bool false, .bool false, .bool false, .bool false, .bool false, .bool false, .bool false, .bool false, .bool false, .bool false, .bool false, .bool false, .bool false, .bool false, .bool false, .bool false, .bool false, .bool false, .string { data := #[] }, .string { data := #[] }, .string { data := #[] }, .string { data := #[] }, .string { data := #[] }, .string { data := #[] }, .string { data := #[] }, .string { data := #[] }, .string { data := #[] }, .string { data := #[] }, .string { data := #[] }, .string { data := #[] }, .string { data := #[] }, .string { data := #[] }, .string { data := #[] }, .string { data := #[] }, .string { data := #[] }, .string { data := #[] }, .string { data := #[] }, .string { data := #[] }, .string { data := #[] }] 51))).heap.size = w.heap.size + 1 + 1 + 1 := by simp
  have C := up_g (w.heap.size + 1 + 1) _ _ d G0 B (((w.alloc (.cells #[.int .i64 k, .int .i64 m, .int .i64 a, .int .i64 b, .bool g, .string s, .slice sa sl sc, .slice ao nk cap] 25)).alloc (.cells #[.int .i64 0, .int .i64 0, .bool false, .bool false, .bool false, .bool false, .bool false, .bool false, .bool false, .bool false, .bool false, .bool false, .bool false, .bool false, .bool false, .bool false, .bool false, .bool false, .bool false, .bool false, .bool false, .bool false, .bool false, .bool false, .string { data := #[] }, .string { data := #[] }, .string { data := #[] }, .string { data := #[] }, .string { data := #[] }, .string { data := #[] }, .string { data := #[] }, .string { data := #[] }, .string { data := #[] }, .string { data := #[] }, .string { data := #[] }, .string { data := #[] }, .string { data := #[] }, .string { data := #[] }, .string { data := #[] }, .string { data := #[] }, .string { data := #[] }, .string { data := #[] }, .string { data := #[] }, .string { data := #[] }, .string { data := #[] }] 51)).alloc (.cells #[.int .i64 0, .int .i64 0, .bool false, .bool false, .bool false, .bool false, .bool false, .bool false, .bool false, .bool false, .bool false, .bool false, .bool false, .bool false, .bool false, .bool false, .bool false, .bool false, .bool false, .bool false, .bool false, .bool false, .bool false, .bool false, .string { data := #[] }, .string { data := #[] }, .string { data := #[] }, .string { data := #[] }, .string { data := #[] }, .string { data := #[] }, .string { data := #[] }, .string { data := #[] }, .string { data := #[] }, .string { data := #[] }, .string { data := #[] }, .string { data := #[] }, .string { data := #[] }, .string { data := #[] }, .string { data := #[] }, .string { data := #[] }, .string { data := #[] }, .string { data := #[] }, .string { data := #[] }, .string { data := #[] }, .string { data := #[] }] 51)) (hv.keep (below_less HBW.out (by omega))) (by omega) (by simp) HG0.out hpl hsz
  obtain ⟨w1, hw1⟩ : ∃ w1, (((w.alloc (.cells #[.int .i64 k, .int .i64 m, .int .i64 a, .int .i64 b, .bool g, .string s, .slice sa sl sc, .slice ao nk cap] 25)).alloc (.cells #[.int .i64 0, .int .i64 0, .bool false, .bool false, .bool false, .bool false, .bool false, .bool false, .bool false, .bool false, .bool false, .bool false, .bool false, .bool false, .bool false, .bool false, .bool false, .bool false, .bool false, .bool false, .bool false, .bool false, .bool false, .bool false, .string { data := #[] }, .string { data := #[] }, .string { data := #[] }, .string { data := #[] }, .string { data := #[] }, .string { data := #[] }, .string { data := #[] }, .string { data := #[] }, .string { data := #[] }, .string { data := #[] }, .string { data := #[] }, .string { data := #[] }, .string { data := #[] }, .string { data := #[] }, .string { data := #[] }, .string { data := #[] }, .string { data := #[] }, .string { data := #[] }, .string { data := #[] }, .string { data := #[] }, .string { data := #[] }] 51)).alloc (.cells #[.int .i64 0, .int .i64 0, .bool false, .bool false, .bool false, .bool false, .bool false, .bool false, .bool false, .bool false, .bool false, .bool false, .bool false, .bool false, .bool false, .bool false, .bool false, .bool false, .bool false, .bool false, .bool false, .bool false, .bool false, .bool false, .string { data := #[] }, .string { data := #[] }, .string { data := #[] }, .string { data := #[] }, .string { data := #[] }, .string { data := #[] }, .string { data := #[] }, .string { data := #[] }, .string { data := #[] }, .string { data := #[] }, .string { data := #[] }, .string { data := #[] }, .string { data := #[] }, .string { data := #[] }, .string { data := #[] }, .string { data := #[] }, .string { data := #[] }, .string { data := #[] }, .string { data := #[] }, .string { data := #[] }, .string { data := #[] }] 51)) = w1 := ⟨_, rfl⟩
  have HW1 : Hid ((((w.alloc (.cells #[.int .i64 k, .int .i64 m, .int .i64 a, .int .i64 b, .bool g, .string s, .slice sa sl sc, .slice ao nk cap] 25)).alloc (.cells #[.int .i64 0, .int .i64 0, .bool false, .bool false, .bool false, .bool false, .bool false, .bool false, .bool false, .bool false, .bool false, .bool false, .bool false, .bool false, .bool false, .bool false, .bool false, .bool false, .bool false, .bool false, .bool false, .bool false, .bool false, .bool false, .string { data := #[] }, .string { data := #[] }, .string { data := #[] }, .string { data := #[] }, .string { data := #[] }, .string { data := #[] }, .string { data := #[] }, .string { data := #[] }, .string { data := #[] }, .string { data := #[] }, .string { data := #[] }, .string { data := #[] }, .string { data := #[] }, .string { data := #[] }, .string { data := #[] }, .string { data := #[] }, .string { data := #[] }, .string { data := #[] }, .string { data := #[] }, .string { data := #[] }, .string { data := #[] }] 51)).alloc (.cells #[.int .i64 0, .int .i64 0, .bool false, .bool false, .bool false, .bool false, .bool false, .bool false, .bool false, .bool false, .bool false, .bool false, .bool false, .bool false, .bool false, .bool false, .bool false, .bool false, .bool false, .bool false, .bool false, .bool false, .bool false, .bool false, .string { data := #[] }, .string { data := #[] }, .string { data := #[] }, .string { data := #[] }, .string { data := #[] }, .string { data := #[] }, .string { data := #[] }, .string { data := #[] }, .string { data := #[] }, .string { data := #[] }, .string { data := #[] }, .string { data := #[] }, .string { data := #[] }, .string { data := #[] }, .string { data := #[] }, .string { data := #[] }, .string { data := #[] }, .string { data := #[] }, .string { data := #[] }, .string { data := #[] }, .string { data := #[] }] 51)) = w1) := hw1
  rw [hw1] at HBW HX HR hz C
  clear hw1 hv hpl HG0
  obtain ⟨G1, hG1⟩ : ∃ G1, gN (.mk k m a b g s st ks) G0 = G1 := ⟨_, rfl⟩
  rw [hG1] at C ⊢
  clear hG1
  go_enter Tryz.func15, Tryz.ntmps15
  go_upto_region 2 with fail
  rw [HW1.out]
  have x0 := HX.out.cell 0 (u := .int .i64 k) rfl
  have x1 := HX.out.cell 1 (u := .int .i64 m) rfl
  have x2 := HX.out.cell 2 (u := .int .i64 a) rfl
  have x3 := HX.out.cell 3 (u := .int .i64 b) rfl
  have x4 := HX.out.cell 4 (u := .bool g) rfl
  have x5 := HX.out.cell 5 (u := .string s) rfl
  have x6 := HX.out.cell 6 (u := .slice sa sl sc) rfl
  have x7 := HX.out.cell 7 (u := .slice ao nk cap) rfl
  go_wp2_with (first
    | (go_at_call 39; go_loud (refine C.mono ?_; rintro e w3 ⟨rfl, hg3, hk3⟩; have HC3 : Hid (GB w3 (w.heap.size + 1 + 1) G1 ∧ Kp (some (w.heap.size + 1 + 1)) w1 w3) := ⟨hg3, hk3⟩; have HR3 : Hid (Bk w3 (w.heap.size + 1) (gcells G0).toArray 51) := HR.out.kp hk3 (fun e => by injection e with e; omega); have hsz3 : (Tryz.prog.info? 51).map (·.size) = some (gcells G1).toArray.size := by rw [gcells_len hg3.l1 hg3.l2]; exact infG))
    | (refine wpList_load_row rfl 51 _ rfl (w.heap.size + 1 + 1) rfl _ _ _ _ HC3.out.1.bk Tryz.underlying51 rfl hsz3 ?_)
    | (refine wpList_store_row rfl 51 _ _ rfl (w.heap.size + 1) (gcells G1).toArray rfl rfl _ _ HR3.out hsz3 (by rw [gcells_len HC3.out.1.l1 HC3.out.1.l2]; rfl) (gcells_one G1) ?_))
  refine bodyPost_ret (results_cell_row Tryz.results15 _ _ (w.heap.size + 1) _ (gcells G1).toArray _ _ rfl (setRow_heap _ _ _ _ _ _ HR3.out) Tryz.underlying51 rfl hsz3) rfl ?_
  exact ⟨rfl, HC3.out.1.l1, HC3.out.1.l2, below_setRow (HBW.out.trans (HC3.out.2.below (by omega) (fun x e => by injection e with e; omega))) (by omega) _⟩
theorem infoStr : (Tryz.prog.info? 9).map (fun i => (i.zero, i.size, i.bytes)) = some (some (.string ⟨#[]⟩), 1, 16) := by kernel_rfl
set_option maxRecDepth 10000 in
set_option maxHeartbeats 16000000 in
theorem clone_s (x : Addr) (cap : Nat) (l : List ByteArray) (w : World) (hv : ∀ (j : Nat) u, (l.map Value.string)[j]? = some u → w.cell? (x.add j) = some u) (hn : l.length ≤ 1000) :
    Calls Tryz.prog 58 #[.slice (some x) l.length cap] w fun e w' => ∃ v', e = .returned v' ∧ w'.ownsRow w.heap.size 9 1 v' l.length (l.map Value.string) ∧ Below w.heap.size w w' := by
  obtain ⟨i0, hi, hz0, hz1, hz2⟩ := info_parts infoStr
  have HV : Hid (∀ (j : Nat) u, (l.map Value.string)[j]? = some u → w.cell? (x.add j) = some u) := hv
  have HC : Hid ((l.map Value.string).length = l.length * 1) := by unfold Hid; simp
  have H1 : Hid (∀ u ∈ l.map Value.string, u.oneCell' = true) := fun u hu => by
    obtain ⟨s, _, rfl⟩ := List.mem_map.1 hu; rfl
  obtain ⟨n, hl⟩ : ∃ n, l.length = n := ⟨_, rfl⟩
  rw [hl] at hn HC ⊢
  generalize l.map Value.string = cl at *
  clear hv hl
  go_enter Tryz.func58, Tryz.ntmps58
  go_wp2_with fail
  rw [Lib.run_eql_slice_nil _ _ _ _ _ _ _ _ Tryz.underlying32]
  go_wp2_with (at_builtin; refine wpList_append_own _ rfl _ _ 32 rfl w.heap.size 9 i0 (.string ⟨#[]⟩) 1 16 Tryz.underlying32 hi hz0 hz1 hz2 rfl (by decide) _ _ _ rfl (World.ownsRow_made w #[] 0 (Nat.le_refl _) (by decide) rfl) x n cap cl rfl HC.out (fun j u hj => (World.grownBy_alloc w _ none).cell (HV.out j u hj) (by simp)) H1.out (by unfold maxLen; omega) (by omega) (by simp) ?_)
  intro v' w3 hown hgrow _
  have bb : Below w.heap.size w w3 := ((Below.refl w.heap.size w).alloc (Nat.le_refl _) _).grown hgrow (by simp) (fun k e => by cases e; exact Nat.le_refl _)
  have HO : Hid (w3.ownsRow w.heap.size 9 1 v' n cl) := by
    unfold Hid; simpa using hown
  clear hgrow hown HV
  go_wp2
  go_ret
  exact ⟨_, rfl, HO.out, bb⟩
set_option maxRecDepth 10000 in
set_option maxHeartbeats 16000000 in
theorem list_any (gb : Nat) (G : Gr) (mn : Nat) (w : World) (h : GB w gb G) (hm : G.most = (mn : Int)) (hm2 : mn ≤ 20) :
    Calls Tryz.prog 18 #[.pointer (some ⟨gb, 0, none⟩)] w fun e w' => ∃ v', e = .returned v' ∧ w'.ownsRow w.heap.size 9 1 v' (mn + 1) ((G.names.take (mn + 1)).map Value.string) ∧ Below w.heap.size w w' := by
  have x0 := h.cell 0 (u := .int .i64 mn) (by rw [gcells, hm]; rfl)
  have hl : (G.names.take (mn + 1)).length = mn + 1 := by rw [List.length_take, h.l2]; omega
  have C := fun (W : World) (hb : Below w.heap.size w W) => clone_s ⟨gb, 24, none⟩ 21 (G.names.take (mn + 1)) W (fun j u hj => by
    rw [List.getElem?_map] at hj
    obtain ⟨s, h1, rfl⟩ := Option.map_eq_some_iff.1 hj
    rw [List.getElem?_take] at h1
    split at h1
    · rw [Addr.add_lit]; exact (h.on hb).name h1
    · cases h1) (by omega)
  have HC : Hid (∀ (W : World), Below w.heap.size w W → Calls Tryz.prog 58 #[.slice (some ⟨gb, 24, none⟩) (mn + 1) 21] W fun e w' => ∃ v', e = .returned v' ∧ w'.ownsRow W.heap.size 9 1 v' (mn + 1) ((G.names.take (mn + 1)).map Value.string) ∧ Below W.heap.size W w') := by
    intro W hb; have := C W hb; rw [hl] at this; exact this
  clear C hl h
  have CW := HC.out w.drew ((Below.refl _ _).drew)
  have hsl : ∀ W, (Instr.sliceAt 49 (.pointer (some ⟨gb, 24, none⟩)) none (some (.int .i64 (IntKind.i64.wrap (↑mn + 1)))) none).run Tryz.prog W = .ok (.slice (some ⟨gb, 24, none⟩) (mn + 1) 21) W := by
    intro W
    have hwr : IntKind.i64.wrap ((mn : Int) + 1) = (mn : Int) + 1 := by rw [IntKind.wrap_i64]; omega
    have hal : Tryz.prog.arrayLen 49 = 21 := by simp [Program.arrayLen, Tryz.underlying49]
    have hel : Tryz.prog.elem 49 = 9 := by simp [Program.elem, Tryz.underlying49]
    rw [hwr, run_sliceAt_array_h W 49 ⟨gb, 24, none⟩ (by rw [hal, hel]; exact Tryz.underlying49) .i64 ((mn : Int) + 1) (by omega) (by rw [hal]; omega), hal, hel]
    have hz1 : (sizeOf 9).run Tryz.prog W = .ok 1 W := by
      obtain ⟨iu, hiu, _, hs1, _⟩ := info_parts infoStr
      simp [sizeOf, typeInfo, hiu, hs1]
    rw [hz1]
    show Result.ok (slicedAt ⟨gb, 24, none⟩ 0 ((mn : Int) + 1).toNat 21 1) W = _
    unfold slicedAt
    rw [if_neg (by omega), Addr.add_lit]
    simp
  go_enter Tryz.func18, Tryz.ntmps18
  go_upto_region 1 with fail
  go_region_with (go_at_call 58; refine CW.mono ?_; rintro e w2 ⟨v', rfl, ho, b2⟩; have HO : Hid (w2.ownsRow w.heap.size 9 1 v' (mn + 1) ((G.names.take (mn + 1)).map Value.string) ∧ Below w.heap.size w w2) := ⟨ho, ((Below.refl _ _).drew).trans b2⟩; clear ho b2 CW)
  all_goals (try go_wp2)
  all_goals go_ret
  all_goals exact ⟨_, rfl, HO.out.1, HO.out.2⟩
end Go.Proofs.YtjbcapnpknbbaaaGreat.cmp
