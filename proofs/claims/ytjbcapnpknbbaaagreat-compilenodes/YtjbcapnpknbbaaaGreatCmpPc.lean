/- pieceOf. -/
import Derived.Test.YtjbcapnpknbbaaaGreatBndCmpTree
import Derived.Deep.RegionHeld3
import Derived.Deep.RegionWith
import Derived.Deep.LoopGhost
import Derived.Deep.CutBlock
set_option linter.unusedVariables false
set_option linter.unusedSimpArgs false
namespace Go.Proofs.YtjbcapnpknbbaaaGreat.cmp
open Go.RowKit nod
open Go.Proofs.YtjbcapnpknbbaaaGreat.wid (ofN)
open Go.Proofs.YtjbcapnpknbbaaaGreat.low (standP kidsP)
open Go.Proofs.YtjbcapnpknbbaaaGreat.rng (R RV info_parts)

theorem one_pp (i : Is SV) (w : World) (hf : 0 ≤ i.x ∧ i.x ≤ 1000001 ∧ 0 ≤ i.y ∧ i.y ≤ 1000001) : Calls Tryz.prog 83 #[agg6 i] w fun e w' => ∃ r : Pp, e = .returned (.agg #[.slice r.ka r.kn r.kc, .int .i64 r.p.2]) ∧ r.p = oneP i ∧ PV w' w.heap.size r ∧ Below w.heap.size w w' := by
  refine (one_any i w).mono ?_
  rintro e w' ⟨g, rfl, cr, hg, b⟩
  exact ⟨⟨some ⟨g, 0, none⟩, 1, 1, oneP i⟩, rfl, rfl, ⟨rfl, cr, fun x e => by cases e; exact ⟨hg, cr_lt cr⟩, (pv_one cr (cr_lt cr) hf).fit⟩, b⟩
set_option maxRecDepth 10000 in
set_option maxHeartbeats 16000000 in
theorem pc15 (m a b : Int) (g : Bool) (s : ByteArray) (sa : Option Addr) (sl sc : Nat) (ao : Option Addr) (nk cap : Nat) (la : Option Addr) (ln lc : Nat) (L : List Pp) (w : World) :
    Calls Tryz.prog 81 #[.agg #[.int .i64 15, .int .i64 m, .int .i64 a, .int .i64 b, .bool g, .string s, .slice sa sl sc, .slice ao nk cap], .slice la ln lc] w fun e w' => ∃ r : Pp, e = .returned (.agg #[.slice r.ka r.kn r.kc, .int .i64 r.p.2]) ∧ r.p = oneP (⟨1, 0, 0, 0, 0, (sa, sl, sc)⟩) ∧ PV w' w.heap.size r ∧ Below w.heap.size w w' := by
  have HBW : Hid (Below w.heap.size w ((w.alloc (.cells #[.int .i64 15, .int .i64 m, .int .i64 a, .int .i64 b, .bool g, .string s, .slice sa sl sc, .slice ao nk cap] 25)).alloc (.cells #[.slice none 0 0, .int .i64 0] 55))) := below2 _ _ _
  have HNX : Hid (Bk ((w.alloc (.cells #[.int .i64 15, .int .i64 m, .int .i64 a, .int .i64 b, .bool g, .string s, .slice sa sl sc, .slice ao nk cap] 25)).alloc (.cells #[.slice none 0 0, .int .i64 0] 55)) w.heap.size #[.int .i64 15, .int .i64 m, .int .i64 a, .int .i64 b, .bool g, .string s, .slice sa sl sc, .slice ao nk cap] 25) := (Bk.new w _ _).past _
  have HR : Hid (Bk ((w.alloc (.cells #[.int .i64 15, .int .i64 m, .int .i64 a, .int .i64 b, .bool g, .string s, .slice sa sl sc, .slice ao nk cap] 25)).alloc (.cells #[.slice none 0 0, .int .i64 0] 55)) (w.heap.size + 1) #[.slice none 0 0, .int .i64 0] 55) := bk2
  have hz : ((w.alloc (.cells #[.int .i64 15, .int .i64 m, .int .i64 a, .int .i64 b, .bool g, .string s, .slice sa sl sc, .slice ao nk cap] 25)).alloc (.cells #[.slice none 0 0, .int .i64 0] 55)).heap.size = w.heap.size + 1 + 1 := by simp
  have C := fun W => one_pp (⟨1, 0, 0, 0, 0, (sa, sl, sc)⟩) W (by simp)
  simp only [agg6, sv, ins, sn] at C
  obtain ⟨w1, hw1⟩ : ∃ w1, ((w.alloc (.cells #[.int .i64 15, .int .i64 m, .int .i64 a, .int .i64 b, .bool g, .string s, .slice sa sl sc, .slice ao nk cap] 25)).alloc (.cells #[.slice none 0 0, .int .i64 0] 55)) = w1 := ⟨_, rfl⟩
  have HW1 : Hid (((w.alloc (.cells #[.int .i64 15, .int .i64 m, .int .i64 a, .int .i64 b, .bool g, .string s, .slice sa sl sc, .slice ao nk cap] 25)).alloc (.cells #[.slice none 0 0, .int .i64 0] 55)) = w1) := hw1
  rw [hw1] at HBW HNX HR hz
  clear hw1
  go_enter Tryz.func81, Tryz.ntmps81
  go_wp2_with (go_at_call 83; refine (C _).mono ?_; rintro e w5 ⟨r, rfl, hr, hv, b5⟩; rw [HW1.out] at b5 hv; have B5 : Hid (Below w1.heap.size w1 w5) := b5; have HPR : Hid (r.p = oneP (⟨1, 0, 0, 0, 0, (sa, sl, sc)⟩) ∧ PV w5 w1.heap.size r) := ⟨hr, hv⟩; have HR5 : Hid (Bk w5 (w.heap.size + 1) #[.slice none 0 0, .int .i64 0] 55) := HR.out.on B5.out; have t0 := HR5.out.cell 0 (u := .slice none 0 0) rfl; have t1 := HR5.out.cell 1 (u := .int .i64 0) rfl; have f0 := HR5.out.frozen 0; have f1 := HR5.out.frozen 1; clear b5 hr hv)
  refine bodyPost_ret (results_cell_row Tryz.results81 _ _ (w.heap.size + 1) _ #[.slice r.ka r.kn r.kc, .int .i64 r.p.2] _ _ rfl (HR5.out.set2 _ _) Tryz.underlying55 rfl infP) rfl ?_
  exact ⟨r, rfl, HPR.out.1, ((HPR.out.2.set (by omega) 0 _).set (by omega) 1 _).wide (by omega), ((HBW.out.trans (below_less B5.out (by omega))).setCell (p := ⟨w.heap.size + 1, 0, none⟩) (by simp) _).setCell (p := ⟨w.heap.size + 1, 1, none⟩) (by simp) _⟩
set_option maxRecDepth 10000 in
set_option maxHeartbeats 16000000 in
theorem pc12 (m a b : Int) (g : Bool) (s : ByteArray) (sa : Option Addr) (sl sc : Nat) (ao : Option Addr) (nk cap : Nat) (la : Option Addr) (ln lc : Nat) (L : List Pp) (w : World) (hm : 1 ≤ m ∧ m ≤ 10) :
    Calls Tryz.prog 81 #[.agg #[.int .i64 12, .int .i64 m, .int .i64 a, .int .i64 b, .bool g, .string s, .slice sa sl sc, .slice ao nk cap], .slice la ln lc] w fun e w' => ∃ r : Pp, e = .returned (.agg #[.slice r.ka r.kn r.kc, .int .i64 r.p.2]) ∧ r.p = oneP (ins sn 5 m 0) ∧ PV w' w.heap.size r ∧ Below w.heap.size w w' := by
  have HBW : Hid (Below w.heap.size w ((w.alloc (.cells #[.int .i64 12, .int .i64 m, .int .i64 a, .int .i64 b, .bool g, .string s, .slice sa sl sc, .slice ao nk cap] 25)).alloc (.cells #[.slice none 0 0, .int .i64 0] 55))) := below2 _ _ _
  have HNX : Hid (Bk ((w.alloc (.cells #[.int .i64 12, .int .i64 m, .int .i64 a, .int .i64 b, .bool g, .string s, .slice sa sl sc, .slice ao nk cap] 25)).alloc (.cells #[.slice none 0 0, .int .i64 0] 55)) w.heap.size #[.int .i64 12, .int .i64 m, .int .i64 a, .int .i64 b, .bool g, .string s, .slice sa sl sc, .slice ao nk cap] 25) := (Bk.new w _ _).past _
  have HR : Hid (Bk ((w.alloc (.cells #[.int .i64 12, .int .i64 m, .int .i64 a, .int .i64 b, .bool g, .string s, .slice sa sl sc, .slice ao nk cap] 25)).alloc (.cells #[.slice none 0 0, .int .i64 0] 55)) (w.heap.size + 1) #[.slice none 0 0, .int .i64 0] 55) := bk2
  have hz : ((w.alloc (.cells #[.int .i64 12, .int .i64 m, .int .i64 a, .int .i64 b, .bool g, .string s, .slice sa sl sc, .slice ao nk cap] 25)).alloc (.cells #[.slice none 0 0, .int .i64 0] 55)).heap.size = w.heap.size + 1 + 1 := by simp
  have C := fun W => one_pp (ins sn 5 m 0) W (by simp only [ins]; omega)
  simp only [agg6, sv, ins, sn] at C
  obtain ⟨w1, hw1⟩ : ∃ w1, ((w.alloc (.cells #[.int .i64 12, .int .i64 m, .int .i64 a, .int .i64 b, .bool g, .string s, .slice sa sl sc, .slice ao nk cap] 25)).alloc (.cells #[.slice none 0 0, .int .i64 0] 55)) = w1 := ⟨_, rfl⟩
  have HW1 : Hid (((w.alloc (.cells #[.int .i64 12, .int .i64 m, .int .i64 a, .int .i64 b, .bool g, .string s, .slice sa sl sc, .slice ao nk cap] 25)).alloc (.cells #[.slice none 0 0, .int .i64 0] 55)) = w1) := hw1
  rw [hw1] at HBW HNX HR hz
  clear hw1
  go_enter Tryz.func81, Tryz.ntmps81
  go_wp2_with (go_at_call 83; refine (C _).mono ?_; rintro e w5 ⟨r, rfl, hr, hv, b5⟩; rw [HW1.out] at b5 hv; have B5 : Hid (Below w1.heap.size w1 w5) := b5; have HPR : Hid (r.p = oneP (ins sn 5 m 0) ∧ PV w5 w1.heap.size r) := ⟨hr, hv⟩; have HR5 : Hid (Bk w5 (w.heap.size + 1) #[.slice none 0 0, .int .i64 0] 55) := HR.out.on B5.out; have t0 := HR5.out.cell 0 (u := .slice none 0 0) rfl; have t1 := HR5.out.cell 1 (u := .int .i64 0) rfl; have f0 := HR5.out.frozen 0; have f1 := HR5.out.frozen 1; clear b5 hr hv)
  refine bodyPost_ret (results_cell_row Tryz.results81 _ _ (w.heap.size + 1) _ #[.slice r.ka r.kn r.kc, .int .i64 r.p.2] _ _ rfl (HR5.out.set2 _ _) Tryz.underlying55 rfl infP) rfl ?_
  exact ⟨r, rfl, HPR.out.1, ((HPR.out.2.set (by omega) 0 _).set (by omega) 1 _).wide (by omega), ((HBW.out.trans (below_less B5.out (by omega))).setCell (p := ⟨w.heap.size + 1, 0, none⟩) (by simp) _).setCell (p := ⟨w.heap.size + 1, 1, none⟩) (by simp) _⟩
set_option maxRecDepth 10000 in
set_option maxHeartbeats 16000000 in
theorem pc13 (m a b : Int) (g : Bool) (s : ByteArray) (sa : Option Addr) (sl sc : Nat) (ao : Option Addr) (nk cap : Nat) (la : Option Addr) (ln lc : Nat) (L : List Pp) (w : World) (ha : 1 ≤ a ∧ a ≤ 20) :
    Calls Tryz.prog 81 #[.agg #[.int .i64 13, .int .i64 m, .int .i64 a, .int .i64 b, .bool g, .string s, .slice sa sl sc, .slice ao nk cap], .slice la ln lc] w fun e w' => ∃ r : Pp, e = .returned (.agg #[.slice r.ka r.kn r.kc, .int .i64 r.p.2]) ∧ r.p = oneP (ins sn 7 a 0) ∧ PV w' w.heap.size r ∧ Below w.heap.size w w' := by
  have HBW : Hid (Below w.heap.size w ((w.alloc (.cells #[.int .i64 13, .int .i64 m, .int .i64 a, .int .i64 b, .bool g, .string s, .slice sa sl sc, .slice ao nk cap] 25)).alloc (.cells #[.slice none 0 0, .int .i64 0] 55))) := below2 _ _ _
  have HNX : Hid (Bk ((w.alloc (.cells #[.int .i64 13, .int .i64 m, .int .i64 a, .int .i64 b, .bool g, .string s, .slice sa sl sc, .slice ao nk cap] 25)).alloc (.cells #[.slice none 0 0, .int .i64 0] 55)) w.heap.size #[.int .i64 13, .int .i64 m, .int .i64 a, .int .i64 b, .bool g, .string s, .slice sa sl sc, .slice ao nk cap] 25) := (Bk.new w _ _).past _
  have HR : Hid (Bk ((w.alloc (.cells #[.int .i64 13, .int .i64 m, .int .i64 a, .int .i64 b, .bool g, .string s, .slice sa sl sc, .slice ao nk cap] 25)).alloc (.cells #[.slice none 0 0, .int .i64 0] 55)) (w.heap.size + 1) #[.slice none 0 0, .int .i64 0] 55) := bk2
  have hz : ((w.alloc (.cells #[.int .i64 13, .int .i64 m, .int .i64 a, .int .i64 b, .bool g, .string s, .slice sa sl sc, .slice ao nk cap] 25)).alloc (.cells #[.slice none 0 0, .int .i64 0] 55)).heap.size = w.heap.size + 1 + 1 := by simp
  have C := fun W => one_pp (ins sn 7 a 0) W (by simp only [ins]; omega)
  simp only [agg6, sv, ins, sn] at C
  obtain ⟨w1, hw1⟩ : ∃ w1, ((w.alloc (.cells #[.int .i64 13, .int .i64 m, .int .i64 a, .int .i64 b, .bool g, .string s, .slice sa sl sc, .slice ao nk cap] 25)).alloc (.cells #[.slice none 0 0, .int .i64 0] 55)) = w1 := ⟨_, rfl⟩
  have HW1 : Hid (((w.alloc (.cells #[.int .i64 13, .int .i64 m, .int .i64 a, .int .i64 b, .bool g, .string s, .slice sa sl sc, .slice ao nk cap] 25)).alloc (.cells #[.slice none 0 0, .int .i64 0] 55)) = w1) := hw1
  rw [hw1] at HBW HNX HR hz
  clear hw1
  go_enter Tryz.func81, Tryz.ntmps81
  go_wp2_with (go_at_call 83; refine (C _).mono ?_; rintro e w5 ⟨r, rfl, hr, hv, b5⟩; rw [HW1.out] at b5 hv; have B5 : Hid (Below w1.heap.size w1 w5) := b5; have HPR : Hid (r.p = oneP (ins sn 7 a 0) ∧ PV w5 w1.heap.size r) := ⟨hr, hv⟩; have HR5 : Hid (Bk w5 (w.heap.size + 1) #[.slice none 0 0, .int .i64 0] 55) := HR.out.on B5.out; have t0 := HR5.out.cell 0 (u := .slice none 0 0) rfl; have t1 := HR5.out.cell 1 (u := .int .i64 0) rfl; have f0 := HR5.out.frozen 0; have f1 := HR5.out.frozen 1; clear b5 hr hv)
  refine bodyPost_ret (results_cell_row Tryz.results81 _ _ (w.heap.size + 1) _ #[.slice r.ka r.kn r.kc, .int .i64 r.p.2] _ _ rfl (HR5.out.set2 _ _) Tryz.underlying55 rfl infP) rfl ?_
  exact ⟨r, rfl, HPR.out.1, ((HPR.out.2.set (by omega) 0 _).set (by omega) 1 _).wide (by omega), ((HBW.out.trans (below_less B5.out (by omega))).setCell (p := ⟨w.heap.size + 1, 0, none⟩) (by simp) _).setCell (p := ⟨w.heap.size + 1, 1, none⟩) (by simp) _⟩
set_option maxRecDepth 10000 in
set_option maxHeartbeats 16000000 in
theorem pc14 (m a b : Int) (g : Bool) (s : ByteArray) (sa : Option Addr) (sl sc : Nat) (ao : Option Addr) (nk cap : Nat) (la : Option Addr) (ln lc : Nat) (L : List Pp) (w : World) :
    Calls Tryz.prog 81 #[.agg #[.int .i64 14, .int .i64 m, .int .i64 a, .int .i64 b, .bool g, .string s, .slice sa sl sc, .slice ao nk cap], .slice la ln lc] w fun e w' => ∃ r : Pp, e = .returned (.agg #[.slice r.ka r.kn r.kc, .int .i64 r.p.2]) ∧ r.p = oneP (ins sn 6 0 0) ∧ PV w' w.heap.size r ∧ Below w.heap.size w w' := by
  have HBW : Hid (Below w.heap.size w ((w.alloc (.cells #[.int .i64 14, .int .i64 m, .int .i64 a, .int .i64 b, .bool g, .string s, .slice sa sl sc, .slice ao nk cap] 25)).alloc (.cells #[.slice none 0 0, .int .i64 0] 55))) := below2 _ _ _
  have HNX : Hid (Bk ((w.alloc (.cells #[.int .i64 14, .int .i64 m, .int .i64 a, .int .i64 b, .bool g, .string s, .slice sa sl sc, .slice ao nk cap] 25)).alloc (.cells #[.slice none 0 0, .int .i64 0] 55)) w.heap.size #[.int .i64 14, .int .i64 m, .int .i64 a, .int .i64 b, .bool g, .string s, .slice sa sl sc, .slice ao nk cap] 25) := (Bk.new w _ _).past _
  have HR : Hid (Bk ((w.alloc (.cells #[.int .i64 14, .int .i64 m, .int .i64 a, .int .i64 b, .bool g, .string s, .slice sa sl sc, .slice ao nk cap] 25)).alloc (.cells #[.slice none 0 0, .int .i64 0] 55)) (w.heap.size + 1) #[.slice none 0 0, .int .i64 0] 55) := bk2
  have hz : ((w.alloc (.cells #[.int .i64 14, .int .i64 m, .int .i64 a, .int .i64 b, .bool g, .string s, .slice sa sl sc, .slice ao nk cap] 25)).alloc (.cells #[.slice none 0 0, .int .i64 0] 55)).heap.size = w.heap.size + 1 + 1 := by simp
  have C := fun W => one_pp (ins sn 6 0 0) W (by simp [ins])
  simp only [agg6, sv, ins, sn] at C
  obtain ⟨w1, hw1⟩ : ∃ w1, ((w.alloc (.cells #[.int .i64 14, .int .i64 m, .int .i64 a, .int .i64 b, .bool g, .string s, .slice sa sl sc, .slice ao nk cap] 25)).alloc (.cells #[.slice none 0 0, .int .i64 0] 55)) = w1 := ⟨_, rfl⟩
  have HW1 : Hid (((w.alloc (.cells #[.int .i64 14, .int .i64 m, .int .i64 a, .int .i64 b, .bool g, .string s, .slice sa sl sc, .slice ao nk cap] 25)).alloc (.cells #[.slice none 0 0, .int .i64 0] 55)) = w1) := hw1
  rw [hw1] at HBW HNX HR hz
  clear hw1
  go_enter Tryz.func81, Tryz.ntmps81
  go_wp2_with (go_at_call 83; refine (C _).mono ?_; rintro e w5 ⟨r, rfl, hr, hv, b5⟩; rw [HW1.out] at b5 hv; have B5 : Hid (Below w1.heap.size w1 w5) := b5; have HPR : Hid (r.p = oneP (ins sn 6 0 0) ∧ PV w5 w1.heap.size r) := ⟨hr, hv⟩; have HR5 : Hid (Bk w5 (w.heap.size + 1) #[.slice none 0 0, .int .i64 0] 55) := HR.out.on B5.out; have t0 := HR5.out.cell 0 (u := .slice none 0 0) rfl; have t1 := HR5.out.cell 1 (u := .int .i64 0) rfl; have f0 := HR5.out.frozen 0; have f1 := HR5.out.frozen 1; clear b5 hr hv)
  refine bodyPost_ret (results_cell_row Tryz.results81 _ _ (w.heap.size + 1) _ #[.slice r.ka r.kn r.kc, .int .i64 r.p.2] _ _ rfl (HR5.out.set2 _ _) Tryz.underlying55 rfl infP) rfl ?_
  exact ⟨r, rfl, HPR.out.1, ((HPR.out.2.set (by omega) 0 _).set (by omega) 1 _).wide (by omega), ((HBW.out.trans (below_less B5.out (by omega))).setCell (p := ⟨w.heap.size + 1, 0, none⟩) (by simp) _).setCell (p := ⟨w.heap.size + 1, 1, none⟩) (by simp) _⟩
set_option maxRecDepth 10000 in
set_option maxHeartbeats 16000000 in
theorem pc11 (m a b : Int) (g : Bool) (s : ByteArray) (sa : Option Addr) (sl sc : Nat) (ao : Option Addr) (nk cap : Nat) (la : Option Addr) (ln lc : Nat) (L : List Pp) (w : World) (hl : L.length = ln) (hv : LV w la L) (hq : ∀ q ∈ L, PV w 0 q) (hb : lensP (ps L) ≤ 5000) (hln : ln ≤ 1000) :
    Calls Tryz.prog 81 #[.agg #[.int .i64 11, .int .i64 m, .int .i64 a, .int .i64 b, .bool g, .string s, .slice sa sl sc, .slice ao nk cap], .slice la ln lc] w fun e w' => ∃ r : Pp, e = .returned (.agg #[.slice r.ka r.kn r.kc, .int .i64 r.p.2]) ∧ r.p = blockP sn (ins sn 9 0 0) (rowP (ps L)) ∧ PV w' w.heap.size r ∧ Below w.heap.size w w' := by
  have HBW : Hid (Below w.heap.size w ((w.alloc (.cells #[.int .i64 11, .int .i64 m, .int .i64 a, .int .i64 b, .bool g, .string s, .slice sa sl sc, .slice ao nk cap] 25)).alloc (.cells #[.slice none 0 0, .int .i64 0] 55))) := below2 _ _ _
  have HNX : Hid (Bk ((w.alloc (.cells #[.int .i64 11, .int .i64 m, .int .i64 a, .int .i64 b, .bool g, .string s, .slice sa sl sc, .slice ao nk cap] 25)).alloc (.cells #[.slice none 0 0, .int .i64 0] 55)) w.heap.size #[.int .i64 11, .int .i64 m, .int .i64 a, .int .i64 b, .bool g, .string s, .slice sa sl sc, .slice ao nk cap] 25) := (Bk.new w _ _).past _
  have HR : Hid (Bk ((w.alloc (.cells #[.int .i64 11, .int .i64 m, .int .i64 a, .int .i64 b, .bool g, .string s, .slice sa sl sc, .slice ao nk cap] 25)).alloc (.cells #[.slice none 0 0, .int .i64 0] 55)) (w.heap.size + 1) #[.slice none 0 0, .int .i64 0] 55) := bk2
  have hz : ((w.alloc (.cells #[.int .i64 11, .int .i64 m, .int .i64 a, .int .i64 b, .bool g, .string s, .slice sa sl sc, .slice ao nk cap] 25)).alloc (.cells #[.slice none 0 0, .int .i64 0] 55)).heap.size = w.heap.size + 1 + 1 := by simp
  have CR1 := row_any la ln lc L ((w.alloc (.cells #[.int .i64 11, .int .i64 m, .int .i64 a, .int .i64 b, .bool g, .string s, .slice sa sl sc, .slice ao nk cap] 25)).alloc (.cells #[.slice none 0 0, .int .i64 0] 55)) hl (hv.on HBW.out) (fun q h => (hq q h).on HBW.out) (by omega) (by omega)
  have HLE : Hid (lensP (ps L) ≤ 5000) := hb
  obtain ⟨w1, hw1⟩ : ∃ w1, ((w.alloc (.cells #[.int .i64 11, .int .i64 m, .int .i64 a, .int .i64 b, .bool g, .string s, .slice sa sl sc, .slice ao nk cap] 25)).alloc (.cells #[.slice none 0 0, .int .i64 0] 55)) = w1 := ⟨_, rfl⟩
  have HW1 : Hid (((w.alloc (.cells #[.int .i64 11, .int .i64 m, .int .i64 a, .int .i64 b, .bool g, .string s, .slice sa sl sc, .slice ao nk cap] 25)).alloc (.cells #[.slice none 0 0, .int .i64 0] 55)) = w1) := hw1
  rw [hw1] at HBW HNX HR hz CR1
  clear hw1 hl hv hq hb
  go_enter Tryz.func81, Tryz.ntmps81
  go_wp2_with (first
    | (go_at_call 82; (try rw [HW1.out]); refine CR1.mono ?_; rintro e w3 ⟨r1, rfl, hr1, hv1, b3⟩; have B3 : Hid (Below w1.heap.size w1 w3) := b3; have hk1 : r1.kn ≤ 5000 := (by rw [← hv1.len, hr1, len_rowP]; exact HLE.out); have C2 := block_any 9 0 0 0 0 none 0 0 r1 w3 (by omega) (hv1.wide (Nat.zero_le _)) (by omega); rw [hr1] at C2; rw [hr1]; clear b3 hv1 CR1 hk1)
    | (go_at_call 95; refine C2.mono ?_; rintro e w5 ⟨r, rfl, hr, hv, d5⟩; have b5 : Below w1.heap.size w1 w5 := B3.out.trans (below_less d5 B3.out.size); have hv := hv.wide B3.out.size; have B5 : Hid (Below w1.heap.size w1 w5) := b5; have HPR : Hid (r.p = blockP sn (ins sn 9 0 0) (rowP (ps L)) ∧ PV w5 w1.heap.size r) := ⟨hr, hv⟩; have HR5 : Hid (Bk w5 (w.heap.size + 1) #[.slice none 0 0, .int .i64 0] 55) := HR.out.on B5.out; have t0 := HR5.out.cell 0 (u := .slice none 0 0) rfl; have t1 := HR5.out.cell 1 (u := .int .i64 0) rfl; have f0 := HR5.out.frozen 0; have f1 := HR5.out.frozen 1; clear b5 hr hv; clear d5 C2))
  refine bodyPost_ret (results_cell_row Tryz.results81 _ _ (w.heap.size + 1) _ #[.slice r.ka r.kn r.kc, .int .i64 r.p.2] _ _ rfl (HR5.out.set2 _ _) Tryz.underlying55 rfl infP) rfl ?_
  exact ⟨r, rfl, HPR.out.1, ((HPR.out.2.set (by omega) 0 _).set (by omega) 1 _).wide (by omega), ((HBW.out.trans (below_less B5.out (by omega))).setCell (p := ⟨w.heap.size + 1, 0, none⟩) (by simp) _).setCell (p := ⟨w.heap.size + 1, 1, none⟩) (by simp) _⟩
set_option maxRecDepth 10000 in
set_option maxHeartbeats 16000000 in
theorem pc6 (m a b : Int) (g : Bool) (s : ByteArray) (sa : Option Addr) (sl sc : Nat) (ao : Option Addr) (nk cap : Nat) (la : Option Addr) (ln lc : Nat) (L : List Pp) (w : World) (hl : L.length = ln) (hv : LV w la L) (hq : ∀ q ∈ L, PV w 0 q) (hb : lensP (ps L) ≤ 5000) (hln : ln ≤ 1000) :
    Calls Tryz.prog 81 #[.agg #[.int .i64 6, .int .i64 m, .int .i64 a, .int .i64 b, .bool g, .string s, .slice sa sl sc, .slice ao nk cap], .slice la ln lc] w fun e w' => ∃ r : Pp, e = .returned (.agg #[.slice r.ka r.kn r.kc, .int .i64 r.p.2]) ∧ r.p = rowP (ps L) ∧ PV w' w.heap.size r ∧ Below w.heap.size w w' := by
  have HBW : Hid (Below w.heap.size w ((w.alloc (.cells #[.int .i64 6, .int .i64 m, .int .i64 a, .int .i64 b, .bool g, .string s, .slice sa sl sc, .slice ao nk cap] 25)).alloc (.cells #[.slice none 0 0, .int .i64 0] 55))) := below2 _ _ _
  have HNX : Hid (Bk ((w.alloc (.cells #[.int .i64 6, .int .i64 m, .int .i64 a, .int .i64 b, .bool g, .string s, .slice sa sl sc, .slice ao nk cap] 25)).alloc (.cells #[.slice none 0 0, .int .i64 0] 55)) w.heap.size #[.int .i64 6, .int .i64 m, .int .i64 a, .int .i64 b, .bool g, .string s, .slice sa sl sc, .slice ao nk cap] 25) := (Bk.new w _ _).past _
  have HR : Hid (Bk ((w.alloc (.cells #[.int .i64 6, .int .i64 m, .int .i64 a, .int .i64 b, .bool g, .string s, .slice sa sl sc, .slice ao nk cap] 25)).alloc (.cells #[.slice none 0 0, .int .i64 0] 55)) (w.heap.size + 1) #[.slice none 0 0, .int .i64 0] 55) := bk2
  have hz : ((w.alloc (.cells #[.int .i64 6, .int .i64 m, .int .i64 a, .int .i64 b, .bool g, .string s, .slice sa sl sc, .slice ao nk cap] 25)).alloc (.cells #[.slice none 0 0, .int .i64 0] 55)).heap.size = w.heap.size + 1 + 1 := by simp
  have CR1 := row_any la ln lc L ((w.alloc (.cells #[.int .i64 6, .int .i64 m, .int .i64 a, .int .i64 b, .bool g, .string s, .slice sa sl sc, .slice ao nk cap] 25)).alloc (.cells #[.slice none 0 0, .int .i64 0] 55)) hl (hv.on HBW.out) (fun q h => (hq q h).on HBW.out) (by omega) (by omega)
  have HLE : Hid (lensP (ps L) ≤ 5000) := hb
  obtain ⟨w1, hw1⟩ : ∃ w1, ((w.alloc (.cells #[.int .i64 6, .int .i64 m, .int .i64 a, .int .i64 b, .bool g, .string s, .slice sa sl sc, .slice ao nk cap] 25)).alloc (.cells #[.slice none 0 0, .int .i64 0] 55)) = w1 := ⟨_, rfl⟩
  have HW1 : Hid (((w.alloc (.cells #[.int .i64 6, .int .i64 m, .int .i64 a, .int .i64 b, .bool g, .string s, .slice sa sl sc, .slice ao nk cap] 25)).alloc (.cells #[.slice none 0 0, .int .i64 0] 55)) = w1) := hw1
  rw [hw1] at HBW HNX HR hz CR1
  clear hw1 hl hv hq hb
  go_enter Tryz.func81, Tryz.ntmps81
  go_wp2_with (go_at_call 82; (try rw [HW1.out]); refine CR1.mono ?_; rintro e w5 ⟨r, rfl, hr, hv, b5⟩; have B5 : Hid (Below w1.heap.size w1 w5) := b5; have HPR : Hid (r.p = rowP (ps L) ∧ PV w5 w1.heap.size r) := ⟨hr, hv⟩; have HR5 : Hid (Bk w5 (w.heap.size + 1) #[.slice none 0 0, .int .i64 0] 55) := HR.out.on B5.out; have t0 := HR5.out.cell 0 (u := .slice none 0 0) rfl; have t1 := HR5.out.cell 1 (u := .int .i64 0) rfl; have f0 := HR5.out.frozen 0; have f1 := HR5.out.frozen 1; clear b5 hr hv)
  refine bodyPost_ret (results_cell_row Tryz.results81 _ _ (w.heap.size + 1) _ #[.slice r.ka r.kn r.kc, .int .i64 r.p.2] _ _ rfl (HR5.out.set2 _ _) Tryz.underlying55 rfl infP) rfl ?_
  exact ⟨r, rfl, HPR.out.1, ((HPR.out.2.set (by omega) 0 _).set (by omega) 1 _).wide (by omega), ((HBW.out.trans (below_less B5.out (by omega))).setCell (p := ⟨w.heap.size + 1, 0, none⟩) (by simp) _).setCell (p := ⟨w.heap.size + 1, 1, none⟩) (by simp) _⟩
set_option maxRecDepth 10000 in
set_option maxHeartbeats 16000000 in
theorem pc9z (m a b : Int) (g : Bool) (s : ByteArray) (sa : Option Addr) (sl sc : Nat) (ao : Option Addr) (nk cap : Nat) (la : Option Addr) (ln lc : Nat) (L : List Pp) (w : World) (hl : L.length = ln) (hv : LV w la L) (hq : ∀ q ∈ L, PV w 0 q) (hb : lensP (ps L) ≤ 5000) (hln : ln ≤ 1000) (ha : a = 0) :
    Calls Tryz.prog 81 #[.agg #[.int .i64 9, .int .i64 m, .int .i64 a, .int .i64 b, .bool g, .string s, .slice sa sl sc, .slice ao nk cap], .slice la ln lc] w fun e w' => ∃ r : Pp, e = .returned (.agg #[.slice r.ka r.kn r.kc, .int .i64 r.p.2]) ∧ r.p = rowP (ps L) ∧ PV w' w.heap.size r ∧ Below w.heap.size w w' := by
  have HBW : Hid (Below w.heap.size w ((w.alloc (.cells #[.int .i64 9, .int .i64 m, .int .i64 a, .int .i64 b, .bool g, .string s, .slice sa sl sc, .slice ao nk cap] 25)).alloc (.cells #[.slice none 0 0, .int .i64 0] 55))) := below2 _ _ _
  have HNX : Hid (Bk ((w.alloc (.cells #[.int .i64 9, .int .i64 m, .int .i64 a, .int .i64 b, .bool g, .string s, .slice sa sl sc, .slice ao nk cap] 25)).alloc (.cells #[.slice none 0 0, .int .i64 0] 55)) w.heap.size #[.int .i64 9, .int .i64 m, .int .i64 a, .int .i64 b, .bool g, .string s, .slice sa sl sc, .slice ao nk cap] 25) := (Bk.new w _ _).past _
  have HR : Hid (Bk ((w.alloc (.cells #[.int .i64 9, .int .i64 m, .int .i64 a, .int .i64 b, .bool g, .string s, .slice sa sl sc, .slice ao nk cap] 25)).alloc (.cells #[.slice none 0 0, .int .i64 0] 55)) (w.heap.size + 1) #[.slice none 0 0, .int .i64 0] 55) := bk2
  have hz : ((w.alloc (.cells #[.int .i64 9, .int .i64 m, .int .i64 a, .int .i64 b, .bool g, .string s, .slice sa sl sc, .slice ao nk cap] 25)).alloc (.cells #[.slice none 0 0, .int .i64 0] 55)).heap.size = w.heap.size + 1 + 1 := by simp
  have CR1 := row_any la ln lc L ((w.alloc (.cells #[.int .i64 9, .int .i64 m, .int .i64 a, .int .i64 b, .bool g, .string s, .slice sa sl sc, .slice ao nk cap] 25)).alloc (.cells #[.slice none 0 0, .int .i64 0] 55)) hl (hv.on HBW.out) (fun q h => (hq q h).on HBW.out) (by omega) (by omega)
  have HLE : Hid (lensP (ps L) ≤ 5000) := hb
  have ha1 : ¬ 0 < a := by omega
  clear ha
  obtain ⟨w1, hw1⟩ : ∃ w1, ((w.alloc (.cells #[.int .i64 9, .int .i64 m, .int .i64 a, .int .i64 b, .bool g, .string s, .slice sa sl sc, .slice ao nk cap] 25)).alloc (.cells #[.slice none 0 0, .int .i64 0] 55)) = w1 := ⟨_, rfl⟩
  have HW1 : Hid (((w.alloc (.cells #[.int .i64 9, .int .i64 m, .int .i64 a, .int .i64 b, .bool g, .string s, .slice sa sl sc, .slice ao nk cap] 25)).alloc (.cells #[.slice none 0 0, .int .i64 0] 55)) = w1) := hw1
  rw [hw1] at HBW HNX HR hz CR1
  clear hw1 hl hv hq hb
  go_enter Tryz.func81, Tryz.ntmps81
  go_wp2_with (go_at_call 82; (try rw [HW1.out]); refine CR1.mono ?_; rintro e w5 ⟨r, rfl, hr, hv, b5⟩; have B5 : Hid (Below w1.heap.size w1 w5) := b5; have HPR : Hid (r.p = rowP (ps L) ∧ PV w5 w1.heap.size r) := ⟨hr, hv⟩; have HR5 : Hid (Bk w5 (w.heap.size + 1) #[.slice none 0 0, .int .i64 0] 55) := HR.out.on B5.out; have t0 := HR5.out.cell 0 (u := .slice none 0 0) rfl; have t1 := HR5.out.cell 1 (u := .int .i64 0) rfl; have f0 := HR5.out.frozen 0; have f1 := HR5.out.frozen 1; clear b5 hr hv)
  refine bodyPost_ret (results_cell_row Tryz.results81 _ _ (w.heap.size + 1) _ #[.slice r.ka r.kn r.kc, .int .i64 r.p.2] _ _ rfl (HR5.out.set2 _ _) Tryz.underlying55 rfl infP) rfl ?_
  exact ⟨r, rfl, HPR.out.1, ((HPR.out.2.set (by omega) 0 _).set (by omega) 1 _).wide (by omega), ((HBW.out.trans (below_less B5.out (by omega))).setCell (p := ⟨w.heap.size + 1, 0, none⟩) (by simp) _).setCell (p := ⟨w.heap.size + 1, 1, none⟩) (by simp) _⟩
set_option maxRecDepth 10000 in
set_option maxHeartbeats 16000000 in
theorem pc9 (m a b : Int) (g : Bool) (s : ByteArray) (sa : Option Addr) (sl sc : Nat) (ao : Option Addr) (nk cap : Nat) (la : Option Addr) (ln lc : Nat) (L : List Pp) (w : World) (hl : L.length = ln) (hv : LV w la L) (hq : ∀ q ∈ L, PV w 0 q) (hb : lensP (ps L) ≤ 5000) (hln : ln ≤ 1000) (ha : 0 < a ∧ a ≤ 20) :
    Calls Tryz.prog 81 #[.agg #[.int .i64 9, .int .i64 m, .int .i64 a, .int .i64 b, .bool g, .string s, .slice sa sl sc, .slice ao nk cap], .slice la ln lc] w fun e w' => ∃ r : Pp, e = .returned (.agg #[.slice r.ka r.kn r.kc, .int .i64 r.p.2]) ∧ r.p = savedP sn a (rowP (ps L)) ∧ PV w' w.heap.size r ∧ Below w.heap.size w w' := by
  have HBW : Hid (Below w.heap.size w ((w.alloc (.cells #[.int .i64 9, .int .i64 m, .int .i64 a, .int .i64 b, .bool g, .string s, .slice sa sl sc, .slice ao nk cap] 25)).alloc (.cells #[.slice none 0 0, .int .i64 0] 55))) := below2 _ _ _
  have HNX : Hid (Bk ((w.alloc (.cells #[.int .i64 9, .int .i64 m, .int .i64 a, .int .i64 b, .bool g, .string s, .slice sa sl sc, .slice ao nk cap] 25)).alloc (.cells #[.slice none 0 0, .int .i64 0] 55)) w.heap.size #[.int .i64 9, .int .i64 m, .int .i64 a, .int .i64 b, .bool g, .string s, .slice sa sl sc, .slice ao nk cap] 25) := (Bk.new w _ _).past _
  have HR : Hid (Bk ((w.alloc (.cells #[.int .i64 9, .int .i64 m, .int .i64 a, .int .i64 b, .bool g, .string s, .slice sa sl sc, .slice ao nk cap] 25)).alloc (.cells #[.slice none 0 0, .int .i64 0] 55)) (w.heap.size + 1) #[.slice none 0 0, .int .i64 0] 55) := bk2
  have hz : ((w.alloc (.cells #[.int .i64 9, .int .i64 m, .int .i64 a, .int .i64 b, .bool g, .string s, .slice sa sl sc, .slice ao nk cap] 25)).alloc (.cells #[.slice none 0 0, .int .i64 0] 55)).heap.size = w.heap.size + 1 + 1 := by simp
  have CRW : Hid (∀ W, Below ((w.alloc (.cells #[.int .i64 9, .int .i64 m, .int .i64 a, .int .i64 b, .bool g, .string s, .slice sa sl sc, .slice ao nk cap] 25)).alloc (.cells #[.slice none 0 0, .int .i64 0] 55)).heap.size ((w.alloc (.cells #[.int .i64 9, .int .i64 m, .int .i64 a, .int .i64 b, .bool g, .string s, .slice sa sl sc, .slice ao nk cap] 25)).alloc (.cells #[.slice none 0 0, .int .i64 0] 55)) W → Calls Tryz.prog 82 #[.slice la ln lc] W fun e w' => ∃ q : Pp, e = .returned (.agg #[.slice q.ka q.kn q.kc, .int .i64 q.p.2]) ∧ q.p = rowP (ps L) ∧ PV w' ((w.alloc (.cells #[.int .i64 9, .int .i64 m, .int .i64 a, .int .i64 b, .bool g, .string s, .slice sa sl sc, .slice ao nk cap] 25)).alloc (.cells #[.slice none 0 0, .int .i64 0] 55)).heap.size q ∧ Below ((w.alloc (.cells #[.int .i64 9, .int .i64 m, .int .i64 a, .int .i64 b, .bool g, .string s, .slice sa sl sc, .slice ao nk cap] 25)).alloc (.cells #[.slice none 0 0, .int .i64 0] 55)).heap.size ((w.alloc (.cells #[.int .i64 9, .int .i64 m, .int .i64 a, .int .i64 b, .bool g, .string s, .slice sa sl sc, .slice ao nk cap] 25)).alloc (.cells #[.slice none 0 0, .int .i64 0] 55)) w') := fun W h => (row_any la ln lc L W hl ((hv.on HBW.out).on h) (fun q hm => ((hq q hm).on HBW.out).on h) (by omega) (by omega)).mono (by rintro e w' ⟨q, h1, h2, h3, h4⟩; exact ⟨q, h1, h2, h3.wide h.size, h.trans (below_less h4 h.size)⟩)
  have HLE : Hid (lensP (ps L) ≤ 5000) := hb
  have HA : Hid (0 < a ∧ a ≤ 20) := ha
  obtain ⟨ha1, ha2⟩ := ha
  obtain ⟨w1, hw1⟩ : ∃ w1, ((w.alloc (.cells #[.int .i64 9, .int .i64 m, .int .i64 a, .int .i64 b, .bool g, .string s, .slice sa sl sc, .slice ao nk cap] 25)).alloc (.cells #[.slice none 0 0, .int .i64 0] 55)) = w1 := ⟨_, rfl⟩
  have HW1 : Hid (((w.alloc (.cells #[.int .i64 9, .int .i64 m, .int .i64 a, .int .i64 b, .bool g, .string s, .slice sa sl sc, .slice ao nk cap] 25)).alloc (.cells #[.slice none 0 0, .int .i64 0] 55)) = w1) := hw1
  rw [hw1] at HBW HNX HR hz CRW
  clear hw1 hl hv hq hb
  have x2 := HNX.out.cell 2 (u := .int .i64 a) rfl
  go_enter Tryz.func81, Tryz.ntmps81
  go_wp2
  rw [HW1.out]
  clear HW1
  go_region_held3 (fun w' => w'.cell? ⟨w.heap.size, 2, none⟩ = some (.int .i64 a)) (go_keep) (first
    | (go_at_call 82; refine (CRW.out _ (Below.refl _ w1).drew).mono ?_; rintro e w3 ⟨r1, rfl, hr1, hv1, b3'⟩; have b3 : Below w1.heap.size w1 w3 := b3'; have B3 : Hid (Below w1.heap.size w1 w3) := b3; have hk1 : r1.kn ≤ 5000 := (by rw [← hv1.len, hr1, len_rowP]; exact HLE.out); have C2 := saved_any a r1 w3 (by have := HA.out; omega) (hv1.wide (Nat.zero_le _)) (by omega); rw [hr1] at C2; rw [hr1]; have y2 := (HNX.out.on b3).cell 2 (u := .int .i64 a) rfl; clear b3 b3' hv1 hk1)
    | (go_at_call 55; refine C2.mono ?_; rintro e w5 ⟨r, rfl, hr, hv, d5⟩; have b5 : Below w1.heap.size w1 w5 := B3.out.trans (below_less d5 B3.out.size); have hv := hv.wide B3.out.size; have z2 := (HNX.out.on b5).cell 2 (u := .int .i64 a) rfl; have B5 : Hid (Below w1.heap.size w1 w5) := b5; have HPR : Hid (r.p = savedP sn a (rowP (ps L)) ∧ PV w5 w1.heap.size r) := ⟨hr, hv⟩; have HR5 : Hid (Bk w5 (w.heap.size + 1) #[.slice none 0 0, .int .i64 0] 55) := HR.out.on B5.out; have t0 := HR5.out.cell 0 (u := .slice none 0 0) rfl; have t1 := HR5.out.cell 1 (u := .int .i64 0) rfl; have f0 := HR5.out.frozen 0; have f1 := HR5.out.frozen 1; clear b5 hr hv; clear d5 C2))
  all_goals go_wp2
  all_goals refine bodyPost_ret (results_cell_row Tryz.results81 _ _ (w.heap.size + 1) _ #[.slice r.ka r.kn r.kc, .int .i64 r.p.2] _ _ rfl (HR5.out.set2 _ _) Tryz.underlying55 rfl infP) rfl ?_
  all_goals exact ⟨r, rfl, HPR.out.1, ((HPR.out.2.set (by omega) 0 _).set (by omega) 1 _).wide (by omega), ((HBW.out.trans (below_less B5.out (by omega))).setCell (p := ⟨w.heap.size + 1, 0, none⟩) (by simp) _).setCell (p := ⟨w.heap.size + 1, 1, none⟩) (by simp) _⟩
set_option maxRecDepth 10000 in
set_option maxHeartbeats 16000000 in
theorem pc8 (m a b : Int) (g : Bool) (s : ByteArray) (sa : Option Addr) (sl sc : Nat) (ao : Option Addr) (nk cap : Nat) (la : Option Addr) (ln lc : Nat) (L : List Pp) (w : World) (hl : L.length = ln) (hv : LV w la L) (hq : ∀ q ∈ L, PV w 0 q) (hb : lensP (ps L) ≤ 5000) (hln : ln ≤ 1000) (ha : 0 ≤ a ∧ a ≤ 100) (hbb : b = -1 ∨ (a ≤ b ∧ b ≤ 100)) :
    Calls Tryz.prog 81 #[.agg #[.int .i64 8, .int .i64 m, .int .i64 a, .int .i64 b, .bool g, .string s, .slice sa sl sc, .slice ao nk cap], .slice la ln lc] w fun e w' => ∃ r : Pp, e = .returned (.agg #[.slice r.ka r.kn r.kc, .int .i64 r.p.2]) ∧ r.p = repAny sn m a b (rowP (ps L)) ∧ PV w' w.heap.size r ∧ Below w.heap.size w w' := by
  have HBW : Hid (Below w.heap.size w ((w.alloc (.cells #[.int .i64 8, .int .i64 m, .int .i64 a, .int .i64 b, .bool g, .string s, .slice sa sl sc, .slice ao nk cap] 25)).alloc (.cells #[.slice none 0 0, .int .i64 0] 55))) := below2 _ _ _
  have HNX : Hid (Bk ((w.alloc (.cells #[.int .i64 8, .int .i64 m, .int .i64 a, .int .i64 b, .bool g, .string s, .slice sa sl sc, .slice ao nk cap] 25)).alloc (.cells #[.slice none 0 0, .int .i64 0] 55)) w.heap.size #[.int .i64 8, .int .i64 m, .int .i64 a, .int .i64 b, .bool g, .string s, .slice sa sl sc, .slice ao nk cap] 25) := (Bk.new w _ _).past _
  have HR : Hid (Bk ((w.alloc (.cells #[.int .i64 8, .int .i64 m, .int .i64 a, .int .i64 b, .bool g, .string s, .slice sa sl sc, .slice ao nk cap] 25)).alloc (.cells #[.slice none 0 0, .int .i64 0] 55)) (w.heap.size + 1) #[.slice none 0 0, .int .i64 0] 55) := bk2
  have hz : ((w.alloc (.cells #[.int .i64 8, .int .i64 m, .int .i64 a, .int .i64 b, .bool g, .string s, .slice sa sl sc, .slice ao nk cap] 25)).alloc (.cells #[.slice none 0 0, .int .i64 0] 55)).heap.size = w.heap.size + 1 + 1 := by simp
  have CRW : Hid (∀ W, Below ((w.alloc (.cells #[.int .i64 8, .int .i64 m, .int .i64 a, .int .i64 b, .bool g, .string s, .slice sa sl sc, .slice ao nk cap] 25)).alloc (.cells #[.slice none 0 0, .int .i64 0] 55)).heap.size ((w.alloc (.cells #[.int .i64 8, .int .i64 m, .int .i64 a, .int .i64 b, .bool g, .string s, .slice sa sl sc, .slice ao nk cap] 25)).alloc (.cells #[.slice none 0 0, .int .i64 0] 55)) W → Calls Tryz.prog 82 #[.slice la ln lc] W fun e w' => ∃ q : Pp, e = .returned (.agg #[.slice q.ka q.kn q.kc, .int .i64 q.p.2]) ∧ q.p = rowP (ps L) ∧ PV w' ((w.alloc (.cells #[.int .i64 8, .int .i64 m, .int .i64 a, .int .i64 b, .bool g, .string s, .slice sa sl sc, .slice ao nk cap] 25)).alloc (.cells #[.slice none 0 0, .int .i64 0] 55)).heap.size q ∧ Below ((w.alloc (.cells #[.int .i64 8, .int .i64 m, .int .i64 a, .int .i64 b, .bool g, .string s, .slice sa sl sc, .slice ao nk cap] 25)).alloc (.cells #[.slice none 0 0, .int .i64 0] 55)).heap.size ((w.alloc (.cells #[.int .i64 8, .int .i64 m, .int .i64 a, .int .i64 b, .bool g, .string s, .slice sa sl sc, .slice ao nk cap] 25)).alloc (.cells #[.slice none 0 0, .int .i64 0] 55)) w') := fun W h => (row_any la ln lc L W hl ((hv.on HBW.out).on h) (fun q hm => ((hq q hm).on HBW.out).on h) (by omega) (by omega)).mono (by rintro e w' ⟨q, h1, h2, h3, h4⟩; exact ⟨q, h1, h2, h3.wide h.size, h.trans (below_less h4 h.size)⟩)
  have HLE : Hid (lensP (ps L) ≤ 5000) := hb
  have HA : Hid ((0 ≤ a ∧ a ≤ 100) ∧ (b = -1 ∨ (a ≤ b ∧ b ≤ 100))) := ⟨ha, hbb⟩
  clear ha hbb
  obtain ⟨w1, hw1⟩ : ∃ w1, ((w.alloc (.cells #[.int .i64 8, .int .i64 m, .int .i64 a, .int .i64 b, .bool g, .string s, .slice sa sl sc, .slice ao nk cap] 25)).alloc (.cells #[.slice none 0 0, .int .i64 0] 55)) = w1 := ⟨_, rfl⟩
  have HW1 : Hid (((w.alloc (.cells #[.int .i64 8, .int .i64 m, .int .i64 a, .int .i64 b, .bool g, .string s, .slice sa sl sc, .slice ao nk cap] 25)).alloc (.cells #[.slice none 0 0, .int .i64 0] 55)) = w1) := hw1
  rw [hw1] at HBW HNX HR hz CRW
  clear hw1 hl hv hq hb
  have x0 := HNX.out.cell 0 (u := .int .i64 8) rfl
  have x1 := HNX.out.cell 1 (u := .int .i64 m) rfl
  have x2 := HNX.out.cell 2 (u := .int .i64 a) rfl
  have x3 := HNX.out.cell 3 (u := .int .i64 b) rfl
  have x4 := HNX.out.cell 4 (u := .bool g) rfl
  have x5 := HNX.out.cell 5 (u := .string s) rfl
  have x6 := HNX.out.cell 6 (u := .slice sa sl sc) rfl
  have x7 := HNX.out.cell 7 (u := .slice ao nk cap) rfl
  go_enter Tryz.func81, Tryz.ntmps81
  go_wp2
  rw [HW1.out]
  clear HW1
  go_region_held3 (fun w' => w'.cell? ⟨w.heap.size, 0, none⟩ = some (.int .i64 8) ∧ w'.cell? ⟨w.heap.size, 1, none⟩ = some (.int .i64 m) ∧ w'.cell? ⟨w.heap.size, 2, none⟩ = some (.int .i64 a) ∧ w'.cell? ⟨w.heap.size, 3, none⟩ = some (.int .i64 b) ∧ w'.cell? ⟨w.heap.size, 4, none⟩ = some (.bool g) ∧ w'.cell? ⟨w.heap.size, 5, none⟩ = some (.string s) ∧ w'.cell? ⟨w.heap.size, 6, none⟩ = some (.slice sa sl sc) ∧ w'.cell? ⟨w.heap.size, 7, none⟩ = some (.slice ao nk cap)) (go_keep) (first
    | (go_at_call 82; refine (CRW.out _ (Below.refl _ w1).drew).mono ?_; rintro e w3 ⟨r1, rfl, hr1, hv1, b3'⟩; have b3 : Below w1.heap.size w1 w3 := b3'; have B3 : Hid (Below w1.heap.size w1 w3) := b3; have hk1 : r1.kn ≤ 5000 := (by rw [← hv1.len, hr1, len_rowP]; exact HLE.out); have C2 := repeated_any 8 m a b g s sa sl sc ao nk cap r1 w3 HA.out.1 HA.out.2 (hv1.wide (Nat.zero_le _)) hk1; rw [hr1] at C2; rw [hr1]; have y0 := (HNX.out.on b3).cell 0 (u := .int .i64 8) rfl; have y1 := (HNX.out.on b3).cell 1 (u := .int .i64 m) rfl; have y2 := (HNX.out.on b3).cell 2 (u := .int .i64 a) rfl; have y3 := (HNX.out.on b3).cell 3 (u := .int .i64 b) rfl; have y4 := (HNX.out.on b3).cell 4 (u := .bool g) rfl; have y5 := (HNX.out.on b3).cell 5 (u := .string s) rfl; have y6 := (HNX.out.on b3).cell 6 (u := .slice sa sl sc) rfl; have y7 := (HNX.out.on b3).cell 7 (u := .slice ao nk cap) rfl; clear b3 b3' hv1 hk1)
    | (go_at_call 94; refine C2.mono ?_; rintro e w5 ⟨r, rfl, hr, hv, d5⟩; have b5 : Below w1.heap.size w1 w5 := B3.out.trans (below_less d5 B3.out.size); have hv := hv.wide B3.out.size; have z0 := (HNX.out.on b5).cell 0 (u := .int .i64 8) rfl; have z1 := (HNX.out.on b5).cell 1 (u := .int .i64 m) rfl; have z2 := (HNX.out.on b5).cell 2 (u := .int .i64 a) rfl; have z3 := (HNX.out.on b5).cell 3 (u := .int .i64 b) rfl; have z4 := (HNX.out.on b5).cell 4 (u := .bool g) rfl; have z5 := (HNX.out.on b5).cell 5 (u := .string s) rfl; have z6 := (HNX.out.on b5).cell 6 (u := .slice sa sl sc) rfl; have z7 := (HNX.out.on b5).cell 7 (u := .slice ao nk cap) rfl; have B5 : Hid (Below w1.heap.size w1 w5) := b5; have HPR : Hid (r.p = repAny sn m a b (rowP (ps L)) ∧ PV w5 w1.heap.size r) := ⟨hr, hv⟩; have HR5 : Hid (Bk w5 (w.heap.size + 1) #[.slice none 0 0, .int .i64 0] 55) := HR.out.on B5.out; have t0 := HR5.out.cell 0 (u := .slice none 0 0) rfl; have t1 := HR5.out.cell 1 (u := .int .i64 0) rfl; have f0 := HR5.out.frozen 0; have f1 := HR5.out.frozen 1; clear b5 hr hv; clear d5 C2))
  all_goals go_wp2
  all_goals refine bodyPost_ret (results_cell_row Tryz.results81 _ _ (w.heap.size + 1) _ #[.slice r.ka r.kn r.kc, .int .i64 r.p.2] _ _ rfl (HR5.out.set2 _ _) Tryz.underlying55 rfl infP) rfl ?_
  all_goals exact ⟨r, rfl, HPR.out.1, ((HPR.out.2.set (by omega) 0 _).set (by omega) 1 _).wide (by omega), ((HBW.out.trans (below_less B5.out (by omega))).setCell (p := ⟨w.heap.size + 1, 0, none⟩) (by simp) _).setCell (p := ⟨w.heap.size + 1, 1, none⟩) (by simp) _⟩
set_option maxRecDepth 10000 in
set_option maxHeartbeats 16000000 in
theorem pc10 (m a b : Int) (g : Bool) (s : ByteArray) (sa : Option Addr) (sl sc : Nat) (ao : Option Addr) (nk cap : Nat) (la : Option Addr) (ln lc : Nat) (L : List Pp) (w : World) (hl : L.length = ln) (hv : LV w la L) (hq : ∀ q ∈ L, PV w 0 q) (hb : lensP (ps L) ≤ 5000) (hln : ln ≤ 1000) (ks : List Nd) (B : Nat) (HLK : Hid (ks.length = nk)) (hk1 : 1 ≤ nk) (hsz : szL ks ≤ 100000000) (hBw : B ≤ w.heap.size) (HK : Hid (KV B w ao ks)) (hm : 0 ≤ m ∧ m ≤ 3) :
    Calls Tryz.prog 81 #[.agg #[.int .i64 10, .int .i64 m, .int .i64 a, .int .i64 b, .bool g, .string s, .slice sa sl sc, .slice ao nk cap], .slice la ln lc] w fun e w' => ∃ r : Pp, e = .returned (.agg #[.slice r.ka r.kn r.kc, .int .i64 r.p.2]) ∧ r.p = blockP sn ⟨8, m, 0, (lkW m ks).1, (lkW m ks).2, sn⟩ (rowP (ps L)) ∧ PV w' w.heap.size r ∧ Below w.heap.size w w' := by
  have HBW : Hid (Below w.heap.size w ((w.alloc (.cells #[.int .i64 10, .int .i64 m, .int .i64 a, .int .i64 b, .bool g, .string s, .slice sa sl sc, .slice ao nk cap] 25)).alloc (.cells #[.slice none 0 0, .int .i64 0] 55))) := below2 _ _ _
  have HNX : Hid (Bk ((w.alloc (.cells #[.int .i64 10, .int .i64 m, .int .i64 a, .int .i64 b, .bool g, .string s, .slice sa sl sc, .slice ao nk cap] 25)).alloc (.cells #[.slice none 0 0, .int .i64 0] 55)) w.heap.size #[.int .i64 10, .int .i64 m, .int .i64 a, .int .i64 b, .bool g, .string s, .slice sa sl sc, .slice ao nk cap] 25) := (Bk.new w _ _).past _
  have HR : Hid (Bk ((w.alloc (.cells #[.int .i64 10, .int .i64 m, .int .i64 a, .int .i64 b, .bool g, .string s, .slice sa sl sc, .slice ao nk cap] 25)).alloc (.cells #[.slice none 0 0, .int .i64 0] 55)) (w.heap.size + 1) #[.slice none 0 0, .int .i64 0] 55) := bk2
  have hz : ((w.alloc (.cells #[.int .i64 10, .int .i64 m, .int .i64 a, .int .i64 b, .bool g, .string s, .slice sa sl sc, .slice ao nk cap] 25)).alloc (.cells #[.slice none 0 0, .int .i64 0] 55)).heap.size = w.heap.size + 1 + 1 := by simp
  have CRW : Hid (∀ W, Below ((w.alloc (.cells #[.int .i64 10, .int .i64 m, .int .i64 a, .int .i64 b, .bool g, .string s, .slice sa sl sc, .slice ao nk cap] 25)).alloc (.cells #[.slice none 0 0, .int .i64 0] 55)).heap.size ((w.alloc (.cells #[.int .i64 10, .int .i64 m, .int .i64 a, .int .i64 b, .bool g, .string s, .slice sa sl sc, .slice ao nk cap] 25)).alloc (.cells #[.slice none 0 0, .int .i64 0] 55)) W → Calls Tryz.prog 82 #[.slice la ln lc] W fun e w' => ∃ q : Pp, e = .returned (.agg #[.slice q.ka q.kn q.kc, .int .i64 q.p.2]) ∧ q.p = rowP (ps L) ∧ PV w' ((w.alloc (.cells #[.int .i64 10, .int .i64 m, .int .i64 a, .int .i64 b, .bool g, .string s, .slice sa sl sc, .slice ao nk cap] 25)).alloc (.cells #[.slice none 0 0, .int .i64 0] 55)).heap.size q ∧ Below ((w.alloc (.cells #[.int .i64 10, .int .i64 m, .int .i64 a, .int .i64 b, .bool g, .string s, .slice sa sl sc, .slice ao nk cap] 25)).alloc (.cells #[.slice none 0 0, .int .i64 0] 55)).heap.size ((w.alloc (.cells #[.int .i64 10, .int .i64 m, .int .i64 a, .int .i64 b, .bool g, .string s, .slice sa sl sc, .slice ao nk cap] 25)).alloc (.cells #[.slice none 0 0, .int .i64 0] 55)) w') := fun W h => (row_any la ln lc L W hl ((hv.on HBW.out).on h) (fun q hm => ((hq q hm).on HBW.out).on h) (by omega) (by omega)).mono (by rintro e w' ⟨q, h1, h2, h3, h4⟩; exact ⟨q, h1, h2, h3.wide h.size, h.trans (below_less h4 h.size)⟩)
  have HLE : Hid (lensP (ps L) ≤ 5000) := hb
  have CK := lookOf_any 10 m a b g s sa sl sc ao nk cap ks B ((w.alloc (.cells #[.int .i64 10, .int .i64 m, .int .i64 a, .int .i64 b, .bool g, .string s, .slice sa sl sc, .slice ao nk cap] 25)).alloc (.cells #[.slice none 0 0, .int .i64 0] 55)) HLK hk1 hsz (by simp; omega) (by unfold Hid; exact HK.out.below (below_less HBW.out hBw))
  obtain ⟨x1, hx1⟩ : ∃ x1, (lkW m ks).1 = x1 := ⟨_, rfl⟩
  obtain ⟨x2, hx2⟩ : ∃ x2, (lkW m ks).2 = x2 := ⟨_, rfl⟩
  rw [hx1, hx2] at CK
  rw [hx1, hx2]
  have HM : Hid (0 ≤ m ∧ m ≤ 3) := hm
  obtain ⟨w1, hw1⟩ : ∃ w1, ((w.alloc (.cells #[.int .i64 10, .int .i64 m, .int .i64 a, .int .i64 b, .bool g, .string s, .slice sa sl sc, .slice ao nk cap] 25)).alloc (.cells #[.slice none 0 0, .int .i64 0] 55)) = w1 := ⟨_, rfl⟩
  have HW1 : Hid (((w.alloc (.cells #[.int .i64 10, .int .i64 m, .int .i64 a, .int .i64 b, .bool g, .string s, .slice sa sl sc, .slice ao nk cap] 25)).alloc (.cells #[.slice none 0 0, .int .i64 0] 55)) = w1) := hw1
  rw [hw1] at HBW HNX HR hz CRW CK
  clear hw1 hl hv hq hb hm HK HLK hk1 hsz hx1 hx2
  go_enter Tryz.func81, Tryz.ntmps81
  go_wp2_with (first
    | (go_at_call 96; (try rw [HW1.out]); refine CK.mono ?_; rintro e w2 ⟨rfl, b2⟩; have B2 : Hid (Below w1.heap.size w1 w2) := b2; have CR1 := CRW.out w2 b2; clear b2 CK)
    | (go_at_call 82; refine CR1.mono ?_; rintro e w3 ⟨r1, rfl, hr1, hv1, b3⟩; have B3 : Hid (Below w1.heap.size w1 w3) := b3; have hk1 : r1.kn ≤ 5000 := (by rw [← hv1.len, hr1, len_rowP]; exact HLE.out); have C2 := block_any 8 m x1 x2 0 none 0 0 r1 w3 (by have := HM.out; omega) (hv1.wide (Nat.zero_le _)) (by omega); rw [hr1] at C2; rw [hr1]; clear b3 hv1 hk1 CR1)
    | (go_at_call 95; refine C2.mono ?_; rintro e w5 ⟨r, rfl, hr, hv, d5⟩; have b5 : Below w1.heap.size w1 w5 := B3.out.trans (below_less d5 B3.out.size); have hv := hv.wide B3.out.size; have B5 : Hid (Below w1.heap.size w1 w5) := b5; have HPR : Hid (r.p = blockP sn ⟨8, m, 0, x1, x2, sn⟩ (rowP (ps L)) ∧ PV w5 w1.heap.size r) := ⟨hr, hv⟩; have HR5 : Hid (Bk w5 (w.heap.size + 1) #[.slice none 0 0, .int .i64 0] 55) := HR.out.on B5.out; have t0 := HR5.out.cell 0 (u := .slice none 0 0) rfl; have t1 := HR5.out.cell 1 (u := .int .i64 0) rfl; have f0 := HR5.out.frozen 0; have f1 := HR5.out.frozen 1; clear b5 hr hv; clear d5 C2))
  refine bodyPost_ret (results_cell_row Tryz.results81 _ _ (w.heap.size + 1) _ #[.slice r.ka r.kn r.kc, .int .i64 r.p.2] _ _ rfl (HR5.out.set2 _ _) Tryz.underlying55 rfl infP) rfl ?_
  exact ⟨r, rfl, HPR.out.1, ((HPR.out.2.set (by omega) 0 _).set (by omega) 1 _).wide (by omega), ((HBW.out.trans (below_less B5.out (by omega))).setCell (p := ⟨w.heap.size + 1, 0, none⟩) (by simp) _).setCell (p := ⟨w.heap.size + 1, 1, none⟩) (by simp) _⟩
set_option maxRecDepth 10000 in
set_option maxHeartbeats 16000000 in
theorem pc7 (m a b : Int) (g : Bool) (s : ByteArray) (sa : Option Addr) (sl sc : Nat) (ao : Option Addr) (nk cap : Nat) (la : Option Addr) (ln lc : Nat) (L : List Pp) (w : World) (hl : L.length = ln) (hv : LV w la L) (hq : ∀ q ∈ L, PV w 0 q) (hb : lensP (ps L) ≤ 5000) (hln : ln ≤ 1000) (h0 : 0 < ln) (hlc : ln ≤ lc) :
    Calls Tryz.prog 81 #[.agg #[.int .i64 7, .int .i64 m, .int .i64 a, .int .i64 b, .bool g, .string s, .slice sa sl sc, .slice ao nk cap], .slice la ln lc] w fun e w' => ∃ r : Pp, e = .returned (.agg #[.slice r.ka r.kn r.kc, .int .i64 r.p.2]) ∧ r.p = choiceP sn (ps L) ∧ PV w' w.heap.size r ∧ Below w.heap.size w w' := by
  have HBW : Hid (Below w.heap.size w ((w.alloc (.cells #[.int .i64 7, .int .i64 m, .int .i64 a, .int .i64 b, .bool g, .string s, .slice sa sl sc, .slice ao nk cap] 25)).alloc (.cells #[.slice none 0 0, .int .i64 0] 55))) := below2 _ _ _
  have HNX : Hid (Bk ((w.alloc (.cells #[.int .i64 7, .int .i64 m, .int .i64 a, .int .i64 b, .bool g, .string s, .slice sa sl sc, .slice ao nk cap] 25)).alloc (.cells #[.slice none 0 0, .int .i64 0] 55)) w.heap.size #[.int .i64 7, .int .i64 m, .int .i64 a, .int .i64 b, .bool g, .string s, .slice sa sl sc, .slice ao nk cap] 25) := (Bk.new w _ _).past _
  have HR : Hid (Bk ((w.alloc (.cells #[.int .i64 7, .int .i64 m, .int .i64 a, .int .i64 b, .bool g, .string s, .slice sa sl sc, .slice ao nk cap] 25)).alloc (.cells #[.slice none 0 0, .int .i64 0] 55)) (w.heap.size + 1) #[.slice none 0 0, .int .i64 0] 55) := bk2
  have hz : ((w.alloc (.cells #[.int .i64 7, .int .i64 m, .int .i64 a, .int .i64 b, .bool g, .string s, .slice sa sl sc, .slice ao nk cap] 25)).alloc (.cells #[.slice none 0 0, .int .i64 0] 55)).heap.size = w.heap.size + 1 + 1 := by simp
  obtain ⟨n, rfl⟩ : ∃ n, ln = n + 1 := ⟨ln - 1, by omega⟩
  obtain ⟨L0, q0, rfl⟩ : ∃ L0 q0, L = L0 ++ [q0] := ⟨L.dropLast, L.getLast (by intro e; rw [e] at hl; simp at hl), (List.dropLast_concat_getLast _).symm⟩
  have C := choice_any la n lc L0 q0 ((w.alloc (.cells #[.int .i64 7, .int .i64 m, .int .i64 a, .int .i64 b, .bool g, .string s, .slice sa sl sc, .slice ao nk cap] 25)).alloc (.cells #[.slice none 0 0, .int .i64 0] 55)) (by simpa using hl) hlc (hv.on HBW.out) (fun q h => (hq q h).on HBW.out) (by omega)
  obtain ⟨w1, hw1⟩ : ∃ w1, ((w.alloc (.cells #[.int .i64 7, .int .i64 m, .int .i64 a, .int .i64 b, .bool g, .string s, .slice sa sl sc, .slice ao nk cap] 25)).alloc (.cells #[.slice none 0 0, .int .i64 0] 55)) = w1 := ⟨_, rfl⟩
  have HW1 : Hid (((w.alloc (.cells #[.int .i64 7, .int .i64 m, .int .i64 a, .int .i64 b, .bool g, .string s, .slice sa sl sc, .slice ao nk cap] 25)).alloc (.cells #[.slice none 0 0, .int .i64 0] 55)) = w1) := hw1
  rw [hw1] at HBW HNX HR hz C
  clear hw1 hl hv hq hb
  go_enter Tryz.func81, Tryz.ntmps81
  go_wp2_with (go_at_call 93; (try rw [HW1.out]); refine C.mono ?_; rintro e w5 ⟨r, rfl, hr, hv, b5⟩; have B5 : Hid (Below w1.heap.size w1 w5) := b5; have HPR : Hid (r.p = choiceP sn (ps (L0 ++ [q0])) ∧ PV w5 w1.heap.size r) := ⟨hr, hv⟩; have HR5 : Hid (Bk w5 (w.heap.size + 1) #[.slice none 0 0, .int .i64 0] 55) := HR.out.on B5.out; have t0 := HR5.out.cell 0 (u := .slice none 0 0) rfl; have t1 := HR5.out.cell 1 (u := .int .i64 0) rfl; have f0 := HR5.out.frozen 0; have f1 := HR5.out.frozen 1; clear b5 hr hv)
  refine bodyPost_ret (results_cell_row Tryz.results81 _ _ (w.heap.size + 1) _ #[.slice r.ka r.kn r.kc, .int .i64 r.p.2] _ _ rfl (HR5.out.set2 _ _) Tryz.underlying55 rfl infP) rfl ?_
  exact ⟨r, rfl, HPR.out.1, ((HPR.out.2.set (by omega) 0 _).set (by omega) 1 _).wide (by omega), ((HBW.out.trans (below_less B5.out (by omega))).setCell (p := ⟨w.heap.size + 1, 0, none⟩) (by simp) _).setCell (p := ⟨w.heap.size + 1, 1, none⟩) (by simp) _⟩
end Go.Proofs.YtjbcapnpknbbaaaGreat.cmp
