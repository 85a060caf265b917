/- The document's builder: node, kind by kind. -/
import Derived.Test.YtjbcapnpknbbaaaGreatCmpDoc9
set_option linter.unusedVariables false
set_option linter.unusedSimpArgs false
namespace Go.Proofs.YtjbcapnpknbbaaaGreat.cmp
open Go.RowKit nod
open Go.Proofs.YtjbcapnpknbbaaaGreat.rng (R RV info_parts)
set_option maxRecDepth 10000 in
set_option maxHeartbeats 4000000 in
theorem node_full (h : Hd) {w0 w : World} {pb B : Nat} {a : Pc (List R)} {G : Option Nat} (hp : DS w0 w pb G h a) (k m na nb : Int) (ng : Bool) (nn : ByteArray) (sa : Option Addr) (sl sc : Nat) (ao : Option Addr) (nk cap : Nat) (ks : List Nd) (hkv : KV B w0 ao ks) (hB : B ≤ pb) (hBw : B ≤ w0.heap.size) (hG : ∀ x, G = some x → B ≤ x) (hb : 5000 < a.1.length) (q : Pc (List R)) (M : Nat) :
    Calls Tryz.prog 23 #[.pointer (some ⟨pb, 0, none⟩), .agg #[.int .i64 k, .int .i64 m, .int .i64 na, .int .i64 nb, .bool ng, .string nn, .slice sa sl sc, .slice ao nk cap]] w fun e w' => e = .returned (.tuple #[]) ∧ ∃ c, DS w0 w' pb G h c ∧ Nx a c (q) (M) := by
  have W2 : Below w.heap.size w (w.alloc (.cells #[.int .i64 k, .int .i64 m, .int .i64 na, .int .i64 nb, .bool ng, .string nn, .slice sa sl sc, .slice ao nk cap] 25)) := (Below.refl _ w).alloc (Nat.le_refl _) _
  have D2 := hp.on W2
  obtain ⟨G', E2, hG2, hne⟩ := D2.again
  have hs0 := hp.kq.size
  have hpb := hp.lt
  have HX2 : Hid (Bk (w.alloc (.cells #[.int .i64 k, .int .i64 m, .int .i64 na, .int .i64 nb, .bool ng, .string nn, .slice sa sl sc, .slice ao nk cap] 25)) w.heap.size #[.int .i64 k, .int .i64 m, .int .i64 na, .int .i64 nb, .bool ng, .string nn, .slice sa sl sc, .slice ao nk cap] 25) := Bk.new w _ _
  have hz : (w.alloc (.cells #[.int .i64 k, .int .i64 m, .int .i64 na, .int .i64 nb, .bool ng, .string nn, .slice sa sl sc, .slice ao nk cap] 25)).heap.size = w.heap.size + 1 := by simp
  have HNP : Hid (w.heap.size ≠ pb) := by unfold Hid; omega
  have HGx : Hid (some w.heap.size ≠ G') := hne _ _ _ HX2.out (by decide)
  have HGB : Hid (∀ x, G' = some x → B ≤ x) := fun x e => by rcases hG2 x e with e' | e'; exact hG x e'.symm; omega
  have hBB : Below B w0 (w.alloc (.cells #[.int .i64 k, .int .i64 m, .int .i64 na, .int .i64 nb, .bool ng, .string nn, .slice sa sl sc, .slice ao nk cap] 25)) := D2.below hBw hB hG
  have HEnd : Hid (∀ w' c, DS (w.alloc (.cells #[.int .i64 k, .int .i64 m, .int .i64 na, .int .i64 nb, .bool ng, .string nn, .slice sa sl sc, .slice ao nk cap] 25)) w' pb G' h c → DS w0 w' pb G h c) := fun w' c e => D2.then hG2 e
  have HK2 : Hid (KV B (w.alloc (.cells #[.int .i64 k, .int .i64 m, .int .i64 na, .int .i64 nb, .bool ng, .string nn, .slice sa sl sc, .slice ao nk cap] 25)) ao ks) := hkv.below hBB
  obtain ⟨w2, hw2⟩ : ∃ w2, w.alloc (.cells #[.int .i64 k, .int .i64 m, .int .i64 na, .int .i64 nb, .bool ng, .string nn, .slice sa sl sc, .slice ao nk cap] 25) = w2 := ⟨_, rfl⟩
  have HW2 : Hid (w.alloc (.cells #[.int .i64 k, .int .i64 m, .int .i64 na, .int .i64 nb, .bool ng, .string nn, .slice sa sl sc, .slice ao nk cap] 25) = w2) := hw2
  rw [hw2] at HX2 hz HEnd E2 HK2
  have HBX : Hid (∀ w' c, DS w2 w' pb G' h c → Bk w' w.heap.size #[.int .i64 k, .int .i64 m, .int .i64 na, .int .i64 nb, .bool ng, .string nn, .slice sa sl sc, .slice ao nk cap] 25) := fun w' c e => e.bk HX2.out HNP.out HGx.out
  have HBW : Hid (∀ w' c, DS w2 w' pb G' h c → Below B w2 w') := fun w' c e => e.below (by omega) hB HGB.out
  have CF := full_d pb a G' h w2 w2 E2
  rw [decide_eq_true hb] at CF
  have HE2 : Hid (DS w2 w2 pb G' h a) := E2
  clear W2 D2 E2 hG2 hne hp hs0 hkv hBB HK2 HGB hw2 HBW
  go_enter Tryz.func23, Tryz.ntmps23
  go_upto_region 1 with fail
  rw [HW2.out]
  go_wp2_with (go_at_call 24; refine CF.mono ?_; clear CF; rintro e w3 ⟨rfl, hw3⟩; obtain rfl := hw3.symm; clear hw3)
  refine bodyPost_ret (results_none rfl _ _ _) rfl ?_
  exact ⟨rfl, a, HEnd.out _ _ HE2.out, .inr ⟨hb, by omega⟩, Nat.le_refl _, by omega⟩
theorem nx_one (a : Pc (List R)) (i : Is (List R)) (h : i.op = 1 ∨ i.op = 5 ∨ i.op = 6 ∨ i.op = 7) (hb : a.1.length ≤ 5000) : Nx a (putP a [i]) (oneP i) 5001 := by
  refine ⟨.inl ?_, by rw [len_putP]; omega, by rw [len_putP, List.length_singleton]; omega⟩
  have : mv (a.1.length : Int) a.2 i = i := by unfold mv; rw [if_neg (by omega), if_neg (by omega), if_neg (by omega), if_neg (by omega), if_neg (by omega)]
  rw [add_one, this]
set_option maxRecDepth 10000 in
set_option maxHeartbeats 4000000 in
theorem node_12 (h : Hd) {w0 w : World} {pb B : Nat} {a : Pc (List R)} {G : Option Nat} (hp : DS w0 w pb G h a) (m na nb : Int) (ng : Bool) (nn : ByteArray) (sa : Option Addr) (sl sc : Nat) (ao : Option Addr) (nk cap : Nat) (ks : List Nd) (hkv : KV B w0 ao ks) (hB : B ≤ pb) (hBw : B ≤ w0.heap.size) (hG : ∀ x, G = some x → B ≤ x) (hb : a.1.length ≤ 5000) :
    Calls Tryz.prog 23 #[.pointer (some ⟨pb, 0, none⟩), .agg #[.int .i64 12, .int .i64 m, .int .i64 na, .int .i64 nb, .bool ng, .string nn, .slice sa sl sc, .slice ao nk cap]] w fun e w' => e = .returned (.tuple #[]) ∧ ∃ c, DS w0 w' pb G h c ∧ Nx a c (oneP (ins [] 5 m 0)) (5001) := by
  have W2 : Below w.heap.size w (w.alloc (.cells #[.int .i64 12, .int .i64 m, .int .i64 na, .int .i64 nb, .bool ng, .string nn, .slice sa sl sc, .slice ao nk cap] 25)) := (Below.refl _ w).alloc (Nat.le_refl _) _
  have D2 := hp.on W2
  obtain ⟨G', E2, hG2, hne⟩ := D2.again
  have hs0 := hp.kq.size
  have hpb := hp.lt
  have HX2 : Hid (Bk (w.alloc (.cells #[.int .i64 12, .int .i64 m, .int .i64 na, .int .i64 nb, .bool ng, .string nn, .slice sa sl sc, .slice ao nk cap] 25)) w.heap.size #[.int .i64 12, .int .i64 m, .int .i64 na, .int .i64 nb, .bool ng, .string nn, .slice sa sl sc, .slice ao nk cap] 25) := Bk.new w _ _
  have hz : (w.alloc (.cells #[.int .i64 12, .int .i64 m, .int .i64 na, .int .i64 nb, .bool ng, .string nn, .slice sa sl sc, .slice ao nk cap] 25)).heap.size = w.heap.size + 1 := by simp
  have HNP : Hid (w.heap.size ≠ pb) := by unfold Hid; omega
  have HGx : Hid (some w.heap.size ≠ G') := hne _ _ _ HX2.out (by decide)
  have HGB : Hid (∀ x, G' = some x → B ≤ x) := fun x e => by rcases hG2 x e with e' | e'; exact hG x e'.symm; omega
  have hBB : Below B w0 (w.alloc (.cells #[.int .i64 12, .int .i64 m, .int .i64 na, .int .i64 nb, .bool ng, .string nn, .slice sa sl sc, .slice ao nk cap] 25)) := D2.below hBw hB hG
  have HEnd : Hid (∀ w' c, DS (w.alloc (.cells #[.int .i64 12, .int .i64 m, .int .i64 na, .int .i64 nb, .bool ng, .string nn, .slice sa sl sc, .slice ao nk cap] 25)) w' pb G' h c → DS w0 w' pb G h c) := fun w' c e => D2.then hG2 e
  have HK2 : Hid (KV B (w.alloc (.cells #[.int .i64 12, .int .i64 m, .int .i64 na, .int .i64 nb, .bool ng, .string nn, .slice sa sl sc, .slice ao nk cap] 25)) ao ks) := hkv.below hBB
  obtain ⟨w2, hw2⟩ : ∃ w2, w.alloc (.cells #[.int .i64 12, .int .i64 m, .int .i64 na, .int .i64 nb, .bool ng, .string nn, .slice sa sl sc, .slice ao nk cap] 25) = w2 := ⟨_, rfl⟩
  have HW2 : Hid (w.alloc (.cells #[.int .i64 12, .int .i64 m, .int .i64 na, .int .i64 nb, .bool ng, .string nn, .slice sa sl sc, .slice ao nk cap] 25) = w2) := hw2
  rw [hw2] at HX2 hz HEnd E2 HK2
  have HBX : Hid (∀ w' c, DS w2 w' pb G' h c → Bk w' w.heap.size #[.int .i64 12, .int .i64 m, .int .i64 na, .int .i64 nb, .bool ng, .string nn, .slice sa sl sc, .slice ao nk cap] 25) := fun w' c e => e.bk HX2.out HNP.out HGx.out
  have HBW : Hid (∀ w' c, DS w2 w' pb G' h c → Below B w2 w') := fun w' c e => e.below (by omega) hB HGB.out
  have CF := full_d pb a G' h w2 w2 E2
  rw [decide_eq_false (by omega)] at CF
  have CP := put_d E2 5 m 0 0 0 none 0 0 [] (qo_nil _) (by omega)
  have x0 := HX2.out.cell 0 (u := .int .i64 12) rfl; have x1 := HX2.out.cell 1 (u := .int .i64 m) rfl; have x2 := HX2.out.cell 2 (u := .int .i64 na) rfl; have x3 := HX2.out.cell 3 (u := .int .i64 nb) rfl; have x4 := HX2.out.cell 4 (u := .bool ng) rfl; have x5 := HX2.out.cell 5 (u := .string nn) rfl; have x6 := HX2.out.cell 6 (u := .slice sa sl sc) rfl; have x7 := HX2.out.cell 7 (u := .slice ao nk cap) rfl
  clear W2 D2 E2 hG2 hne hp hs0 hkv hBB HK2 HGB hw2 HBW
  go_enter Tryz.func23, Tryz.ntmps23
  go_upto_region 1 with fail
  rw [HW2.out]
  go_wp2_with (first
    | (go_at_call 24; refine CF.mono ?_; clear CF; rintro e w3 ⟨rfl, hw3⟩; obtain rfl := hw3.symm; clear hw3)
    | (go_at_call 22; refine CP.mono ?_; clear CP; rintro e w4 ⟨rfl, k4⟩; have HD4 : Hid (DS w2 w4 pb G' h (putP a [ins [] 5 m 0])) := k4; clear k4))
  go_end0
  exact ⟨rfl, _, HEnd.out _ _ HD4.out, nx_one a _ (by simp [ins]) hb⟩
set_option maxRecDepth 10000 in
set_option maxHeartbeats 4000000 in
theorem node_13 (h : Hd) {w0 w : World} {pb B : Nat} {a : Pc (List R)} {G : Option Nat} (hp : DS w0 w pb G h a) (m na nb : Int) (ng : Bool) (nn : ByteArray) (sa : Option Addr) (sl sc : Nat) (ao : Option Addr) (nk cap : Nat) (ks : List Nd) (hkv : KV B w0 ao ks) (hB : B ≤ pb) (hBw : B ≤ w0.heap.size) (hG : ∀ x, G = some x → B ≤ x) (hb : a.1.length ≤ 5000) :
    Calls Tryz.prog 23 #[.pointer (some ⟨pb, 0, none⟩), .agg #[.int .i64 13, .int .i64 m, .int .i64 na, .int .i64 nb, .bool ng, .string nn, .slice sa sl sc, .slice ao nk cap]] w fun e w' => e = .returned (.tuple #[]) ∧ ∃ c, DS w0 w' pb G h c ∧ Nx a c (oneP (ins [] 7 na 0)) (5001) := by
  have W2 : Below w.heap.size w (w.alloc (.cells #[.int .i64 13, .int .i64 m, .int .i64 na, .int .i64 nb, .bool ng, .string nn, .slice sa sl sc, .slice ao nk cap] 25)) := (Below.refl _ w).alloc (Nat.le_refl _) _
  have D2 := hp.on W2
  obtain ⟨G', E2, hG2, hne⟩ := D2.again
  have hs0 := hp.kq.size
  have hpb := hp.lt
  have HX2 : Hid (Bk (w.alloc (.cells #[.int .i64 13, .int .i64 m, .int .i64 na, .int .i64 nb, .bool ng, .string nn, .slice sa sl sc, .slice ao nk cap] 25)) w.heap.size #[.int .i64 13, .int .i64 m, .int .i64 na, .int .i64 nb, .bool ng, .string nn, .slice sa sl sc, .slice ao nk cap] 25) := Bk.new w _ _
  have hz : (w.alloc (.cells #[.int .i64 13, .int .i64 m, .int .i64 na, .int .i64 nb, .bool ng, .string nn, .slice sa sl sc, .slice ao nk cap] 25)).heap.size = w.heap.size + 1 := by simp
  have HNP : Hid (w.heap.size ≠ pb) := by unfold Hid; omega
  have HGx : Hid (some w.heap.size ≠ G') := hne _ _ _ HX2.out (by decide)
  have HGB : Hid (∀ x, G' = some x → B ≤ x) := fun x e => by rcases hG2 x e with e' | e'; exact hG x e'.symm; omega
  have hBB : Below B w0 (w.alloc (.cells #[.int .i64 13, .int .i64 m, .int .i64 na, .int .i64 nb, .bool ng, .string nn, .slice sa sl sc, .slice ao nk cap] 25)) := D2.below hBw hB hG
  have HEnd : Hid (∀ w' c, DS (w.alloc (.cells #[.int .i64 13, .int .i64 m, .int .i64 na, .int .i64 nb, .bool ng, .string nn, .slice sa sl sc, .slice ao nk cap] 25)) w' pb G' h c → DS w0 w' pb G h c) := fun w' c e => D2.then hG2 e
  have HK2 : Hid (KV B (w.alloc (.cells #[.int .i64 13, .int .i64 m, .int .i64 na, .int .i64 nb, .bool ng, .string nn, .slice sa sl sc, .slice ao nk cap] 25)) ao ks) := hkv.below hBB
  obtain ⟨w2, hw2⟩ : ∃ w2, w.alloc (.cells #[.int .i64 13, .int .i64 m, .int .i64 na, .int .i64 nb, .bool ng, .string nn, .slice sa sl sc, .slice ao nk cap] 25) = w2 := ⟨_, rfl⟩
  have HW2 : Hid (w.alloc (.cells #[.int .i64 13, .int .i64 m, .int .i64 na, .int .i64 nb, .bool ng, .string nn, .slice sa sl sc, .slice ao nk cap] 25) = w2) := hw2
  rw [hw2] at HX2 hz HEnd E2 HK2
  have HBX : Hid (∀ w' c, DS w2 w' pb G' h c → Bk w' w.heap.size #[.int .i64 13, .int .i64 m, .int .i64 na, .int .i64 nb, .bool ng, .string nn, .slice sa sl sc, .slice ao nk cap] 25) := fun w' c e => e.bk HX2.out HNP.out HGx.out
  have HBW : Hid (∀ w' c, DS w2 w' pb G' h c → Below B w2 w') := fun w' c e => e.below (by omega) hB HGB.out
  have CF := full_d pb a G' h w2 w2 E2
  rw [decide_eq_false (by omega)] at CF
  have CP := put_d E2 7 na 0 0 0 none 0 0 [] (qo_nil _) (by omega)
  have x0 := HX2.out.cell 0 (u := .int .i64 13) rfl; have x1 := HX2.out.cell 1 (u := .int .i64 m) rfl; have x2 := HX2.out.cell 2 (u := .int .i64 na) rfl; have x3 := HX2.out.cell 3 (u := .int .i64 nb) rfl; have x4 := HX2.out.cell 4 (u := .bool ng) rfl; have x5 := HX2.out.cell 5 (u := .string nn) rfl; have x6 := HX2.out.cell 6 (u := .slice sa sl sc) rfl; have x7 := HX2.out.cell 7 (u := .slice ao nk cap) rfl
  clear W2 D2 E2 hG2 hne hp hs0 hkv hBB HK2 HGB hw2 HBW
  go_enter Tryz.func23, Tryz.ntmps23
  go_upto_region 1 with fail
  rw [HW2.out]
  go_wp2_with (first
    | (go_at_call 24; refine CF.mono ?_; clear CF; rintro e w3 ⟨rfl, hw3⟩; obtain rfl := hw3.symm; clear hw3)
    | (go_at_call 22; refine CP.mono ?_; clear CP; rintro e w4 ⟨rfl, k4⟩; have HD4 : Hid (DS w2 w4 pb G' h (putP a [ins [] 7 na 0])) := k4; clear k4))
  go_end0
  exact ⟨rfl, _, HEnd.out _ _ HD4.out, nx_one a _ (by simp [ins]) hb⟩
set_option maxRecDepth 10000 in
set_option maxHeartbeats 4000000 in
theorem node_14 (h : Hd) {w0 w : World} {pb B : Nat} {a : Pc (List R)} {G : Option Nat} (hp : DS w0 w pb G h a) (m na nb : Int) (ng : Bool) (nn : ByteArray) (sa : Option Addr) (sl sc : Nat) (ao : Option Addr) (nk cap : Nat) (ks : List Nd) (hkv : KV B w0 ao ks) (hB : B ≤ pb) (hBw : B ≤ w0.heap.size) (hG : ∀ x, G = some x → B ≤ x) (hb : a.1.length ≤ 5000) :
    Calls Tryz.prog 23 #[.pointer (some ⟨pb, 0, none⟩), .agg #[.int .i64 14, .int .i64 m, .int .i64 na, .int .i64 nb, .bool ng, .string nn, .slice sa sl sc, .slice ao nk cap]] w fun e w' => e = .returned (.tuple #[]) ∧ ∃ c, DS w0 w' pb G h c ∧ Nx a c (oneP (ins [] 6 0 0)) (5001) := by
  have W2 : Below w.heap.size w (w.alloc (.cells #[.int .i64 14, .int .i64 m, .int .i64 na, .int .i64 nb, .bool ng, .string nn, .slice sa sl sc, .slice ao nk cap] 25)) := (Below.refl _ w).alloc (Nat.le_refl _) _
  have D2 := hp.on W2
  obtain ⟨G', E2, hG2, hne⟩ := D2.again
  have hs0 := hp.kq.size
  have hpb := hp.lt
  have HX2 : Hid (Bk (w.alloc (.cells #[.int .i64 14, .int .i64 m, .int .i64 na, .int .i64 nb, .bool ng, .string nn, .slice sa sl sc, .slice ao nk cap] 25)) w.heap.size #[.int .i64 14, .int .i64 m, .int .i64 na, .int .i64 nb, .bool ng, .string nn, .slice sa sl sc, .slice ao nk cap] 25) := Bk.new w _ _
  have hz : (w.alloc (.cells #[.int .i64 14, .int .i64 m, .int .i64 na, .int .i64 nb, .bool ng, .string nn, .slice sa sl sc, .slice ao nk cap] 25)).heap.size = w.heap.size + 1 := by simp
  have HNP : Hid (w.heap.size ≠ pb) := by unfold Hid; omega
  have HGx : Hid (some w.heap.size ≠ G') := hne _ _ _ HX2.out (by decide)
  have HGB : Hid (∀ x, G' = some x → B ≤ x) := fun x e => by rcases hG2 x e with e' | e'; exact hG x e'.symm; omega
  have hBB : Below B w0 (w.alloc (.cells #[.int .i64 14, .int .i64 m, .int .i64 na, .int .i64 nb, .bool ng, .string nn, .slice sa sl sc, .slice ao nk cap] 25)) := D2.below hBw hB hG
  have HEnd : Hid (∀ w' c, DS (w.alloc (.cells #[.int .i64 14, .int .i64 m, .int .i64 na, .int .i64 nb, .bool ng, .string nn, .slice sa sl sc, .slice ao nk cap] 25)) w' pb G' h c → DS w0 w' pb G h c) := fun w' c e => D2.then hG2 e
  have HK2 : Hid (KV B (w.alloc (.cells #[.int .i64 14, .int .i64 m, .int .i64 na, .int .i64 nb, .bool ng, .string nn, .slice sa sl sc, .slice ao nk cap] 25)) ao ks) := hkv.below hBB
  obtain ⟨w2, hw2⟩ : ∃ w2, w.alloc (.cells #[.int .i64 14, .int .i64 m, .int .i64 na, .int .i64 nb, .bool ng, .string nn, .slice sa sl sc, .slice ao nk cap] 25) = w2 := ⟨_, rfl⟩
  have HW2 : Hid (w.alloc (.cells #[.int .i64 14, .int .i64 m, .int .i64 na, .int .i64 nb, .bool ng, .string nn, .slice sa sl sc, .slice ao nk cap] 25) = w2) := hw2
  rw [hw2] at HX2 hz HEnd E2 HK2
  have HBX : Hid (∀ w' c, DS w2 w' pb G' h c → Bk w' w.heap.size #[.int .i64 14, .int .i64 m, .int .i64 na, .int .i64 nb, .bool ng, .string nn, .slice sa sl sc, .slice ao nk cap] 25) := fun w' c e => e.bk HX2.out HNP.out HGx.out
  have HBW : Hid (∀ w' c, DS w2 w' pb G' h c → Below B w2 w') := fun w' c e => e.below (by omega) hB HGB.out
  have CF := full_d pb a G' h w2 w2 E2
  rw [decide_eq_false (by omega)] at CF
  have CP := put_d E2 6 0 0 0 0 none 0 0 [] (qo_nil _) (by omega)
  have x0 := HX2.out.cell 0 (u := .int .i64 14) rfl; have x1 := HX2.out.cell 1 (u := .int .i64 m) rfl; have x2 := HX2.out.cell 2 (u := .int .i64 na) rfl; have x3 := HX2.out.cell 3 (u := .int .i64 nb) rfl; have x4 := HX2.out.cell 4 (u := .bool ng) rfl; have x5 := HX2.out.cell 5 (u := .string nn) rfl; have x6 := HX2.out.cell 6 (u := .slice sa sl sc) rfl; have x7 := HX2.out.cell 7 (u := .slice ao nk cap) rfl
  clear W2 D2 E2 hG2 hne hp hs0 hkv hBB HK2 HGB hw2 HBW
  go_enter Tryz.func23, Tryz.ntmps23
  go_upto_region 1 with fail
  rw [HW2.out]
  go_wp2_with (first
    | (go_at_call 24; refine CF.mono ?_; clear CF; rintro e w3 ⟨rfl, hw3⟩; obtain rfl := hw3.symm; clear hw3)
    | (go_at_call 22; refine CP.mono ?_; clear CP; rintro e w4 ⟨rfl, k4⟩; have HD4 : Hid (DS w2 w4 pb G' h (putP a [ins [] 6 0 0])) := k4; clear k4))
  go_end0
  exact ⟨rfl, _, HEnd.out _ _ HD4.out, nx_one a _ (by simp [ins]) hb⟩
set_option maxRecDepth 10000 in
set_option maxHeartbeats 4000000 in
theorem node_9 (h : Hd) {w0 w : World} {pb B : Nat} {a : Pc (List R)} {G : Option Nat} (hp : DS w0 w pb G h a) (m na nb : Int) (ng : Bool) (nn : ByteArray) (sa : Option Addr) (sl sc : Nat) (ao : Option Addr) (nk cap : Nat) (ks : List Nd) (hkv : KV B w0 ao ks) (hB : B ≤ pb) (hBw : B ≤ w0.heap.size) (hG : ∀ x, G = some x → B ≤ x) (M : Nat) (t : Nd) (HD : Doc h M t) (hM : 5001 ≤ M) (hM2 : M ≤ 15000) (hks : ks = [t]) (hnk : nk = 1) (hcap : nk ≤ cap) (hg1 : 0 ≤ na) (hg2 : na ≤ 20) (hb : a.1.length ≤ 5000) :
    Calls Tryz.prog 23 #[.pointer (some ⟨pb, 0, none⟩), .agg #[.int .i64 9, .int .i64 m, .int .i64 na, .int .i64 nb, .bool ng, .string nn, .slice sa sl sc, .slice ao nk cap]] w fun e w' => e = .returned (.tuple #[]) ∧ ∃ c, DS w0 w' pb G h c ∧ Nx a c (grpP na (pcN t)) (M + 2) := by
  have W2 : Below w.heap.size w (w.alloc (.cells #[.int .i64 9, .int .i64 m, .int .i64 na, .int .i64 nb, .bool ng, .string nn, .slice sa sl sc, .slice ao nk cap] 25)) := (Below.refl _ w).alloc (Nat.le_refl _) _
  have D2 := hp.on W2
  obtain ⟨G', E2, hG2, hne⟩ := D2.again
  have hs0 := hp.kq.size
  have hpb := hp.lt
  have HX2 : Hid (Bk (w.alloc (.cells #[.int .i64 9, .int .i64 m, .int .i64 na, .int .i64 nb, .bool ng, .string nn, .slice sa sl sc, .slice ao nk cap] 25)) w.heap.size #[.int .i64 9, .int .i64 m, .int .i64 na, .int .i64 nb, .bool ng, .string nn, .slice sa sl sc, .slice ao nk cap] 25) := Bk.new w _ _
  have hz : (w.alloc (.cells #[.int .i64 9, .int .i64 m, .int .i64 na, .int .i64 nb, .bool ng, .string nn, .slice sa sl sc, .slice ao nk cap] 25)).heap.size = w.heap.size + 1 := by simp
  have HNP : Hid (w.heap.size ≠ pb) := by unfold Hid; omega
  have HGx : Hid (some w.heap.size ≠ G') := hne _ _ _ HX2.out (by decide)
  have HGB : Hid (∀ x, G' = some x → B ≤ x) := fun x e => by rcases hG2 x e with e' | e'; exact hG x e'.symm; omega
  have hBB : Below B w0 (w.alloc (.cells #[.int .i64 9, .int .i64 m, .int .i64 na, .int .i64 nb, .bool ng, .string nn, .slice sa sl sc, .slice ao nk cap] 25)) := D2.below hBw hB hG
  have HEnd : Hid (∀ w' c, DS (w.alloc (.cells #[.int .i64 9, .int .i64 m, .int .i64 na, .int .i64 nb, .bool ng, .string nn, .slice sa sl sc, .slice ao nk cap] 25)) w' pb G' h c → DS w0 w' pb G h c) := fun w' c e => D2.then hG2 e
  have HK2 : Hid (KV B (w.alloc (.cells #[.int .i64 9, .int .i64 m, .int .i64 na, .int .i64 nb, .bool ng, .string nn, .slice sa sl sc, .slice ao nk cap] 25)) ao ks) := hkv.below hBB
  obtain ⟨w2, hw2⟩ : ∃ w2, w.alloc (.cells #[.int .i64 9, .int .i64 m, .int .i64 na, .int .i64 nb, .bool ng, .string nn, .slice sa sl sc, .slice ao nk cap] 25) = w2 := ⟨_, rfl⟩
  have HW2 : Hid (w.alloc (.cells #[.int .i64 9, .int .i64 m, .int .i64 na, .int .i64 nb, .bool ng, .string nn, .slice sa sl sc, .slice ao nk cap] 25) = w2) := hw2
  rw [hw2] at HX2 hz HEnd E2 HK2
  have HBX : Hid (∀ w' c, DS w2 w' pb G' h c → Bk w' w.heap.size #[.int .i64 9, .int .i64 m, .int .i64 na, .int .i64 nb, .bool ng, .string nn, .slice sa sl sc, .slice ao nk cap] 25) := fun w' c e => e.bk HX2.out HNP.out HGx.out
  have HBW : Hid (∀ w' c, DS w2 w' pb G' h c → Below B w2 w') := fun w' c e => e.below (by omega) hB HGB.out
  subst hks hnk
  have CF := full_d pb a G' h w2 w2 E2
  rw [decide_eq_false (by omega)] at CF
  have CG := group_d h M t HD hM hM2 E2 9 m na nb ng nn sa sl sc ao 1 cap [t] rfl rfl hcap HK2.out hB (by omega) HGB.out hb hg1 hg2
  have x0 := HX2.out.cell 0 (u := .int .i64 9) rfl; have x1 := HX2.out.cell 1 (u := .int .i64 m) rfl; have x2 := HX2.out.cell 2 (u := .int .i64 na) rfl; have x3 := HX2.out.cell 3 (u := .int .i64 nb) rfl; have x4 := HX2.out.cell 4 (u := .bool ng) rfl; have x5 := HX2.out.cell 5 (u := .string nn) rfl; have x6 := HX2.out.cell 6 (u := .slice sa sl sc) rfl; have x7 := HX2.out.cell 7 (u := .slice ao 1 cap) rfl
  clear HD
  clear W2 D2 E2 hG2 hne hp hs0 hkv hBB HK2 HGB hw2 HBW
  go_enter Tryz.func23, Tryz.ntmps23
  go_upto_region 1 with fail
  rw [HW2.out]
  go_wp2_with (first
    | (go_at_call 24; refine CF.mono ?_; clear CF; rintro e w3 ⟨rfl, hw3⟩; obtain rfl := hw3.symm; clear hw3)
    | (go_at_call 63; refine CG.mono ?_; clear CG; rintro e w4 ⟨rfl, c, k4, hnx⟩; have HD4 : Hid (DS w2 w4 pb G' h c) := k4; have HNX : Hid (Nx a c (grpP na (pcN t)) (M + 2)) := hnx; clear k4 hnx))
  go_end0
  exact ⟨rfl, c, HEnd.out _ _ HD4.out, HNX.out⟩
set_option maxRecDepth 10000 in
set_option maxHeartbeats 4000000 in
theorem node_7 (h : Hd) {w0 w : World} {pb B : Nat} {a : Pc (List R)} {G : Option Nat} (hp : DS w0 w pb G h a) (m na nb : Int) (ng : Bool) (nn : ByteArray) (sa : Option Addr) (sl sc : Nat) (ao : Option Addr) (nk cap : Nat) (ks : List Nd) (hkv : KV B w0 ao ks) (hB : B ≤ pb) (hBw : B ≤ w0.heap.size) (hG : ∀ x, G = some x → B ≤ x) (S : Nat) (HD : ∀ t ∈ ks, Doc h (5001 + 6 * t.sz) t) (hS : szL ks = S) (hM2 : S ≤ 600) (hnk : ks.length = nk) (hpos : 0 < nk) (hcap : nk ≤ cap) (hb : a.1.length ≤ 5000) :
    Calls Tryz.prog 23 #[.pointer (some ⟨pb, 0, none⟩), .agg #[.int .i64 7, .int .i64 m, .int .i64 na, .int .i64 nb, .bool ng, .string nn, .slice sa sl sc, .slice ao nk cap]] w fun e w' => e = .returned (.tuple #[]) ∧ ∃ c, DS w0 w' pb G h c ∧ Nx a c (choiceP [] (ks.map pcN)) (5002 + 6 * S) := by
  have W2 : Below w.heap.size w (w.alloc (.cells #[.int .i64 7, .int .i64 m, .int .i64 na, .int .i64 nb, .bool ng, .string nn, .slice sa sl sc, .slice ao nk cap] 25)) := (Below.refl _ w).alloc (Nat.le_refl _) _
  have D2 := hp.on W2
  obtain ⟨G', E2, hG2, hne⟩ := D2.again
  have hs0 := hp.kq.size
  have hpb := hp.lt
  have HX2 : Hid (Bk (w.alloc (.cells #[.int .i64 7, .int .i64 m, .int .i64 na, .int .i64 nb, .bool ng, .string nn, .slice sa sl sc, .slice ao nk cap] 25)) w.heap.size #[.int .i64 7, .int .i64 m, .int .i64 na, .int .i64 nb, .bool ng, .string nn, .slice sa sl sc, .slice ao nk cap] 25) := Bk.new w _ _
  have hz : (w.alloc (.cells #[.int .i64 7, .int .i64 m, .int .i64 na, .int .i64 nb, .bool ng, .string nn, .slice sa sl sc, .slice ao nk cap] 25)).heap.size = w.heap.size + 1 := by simp
  have HNP : Hid (w.heap.size ≠ pb) := by unfold Hid; omega
  have HGx : Hid (some w.heap.size ≠ G') := hne _ _ _ HX2.out (by decide)
  have HGB : Hid (∀ x, G' = some x → B ≤ x) := fun x e => by rcases hG2 x e with e' | e'; exact hG x e'.symm; omega
  have hBB : Below B w0 (w.alloc (.cells #[.int .i64 7, .int .i64 m, .int .i64 na, .int .i64 nb, .bool ng, .string nn, .slice sa sl sc, .slice ao nk cap] 25)) := D2.below hBw hB hG
  have HEnd : Hid (∀ w' c, DS (w.alloc (.cells #[.int .i64 7, .int .i64 m, .int .i64 na, .int .i64 nb, .bool ng, .string nn, .slice sa sl sc, .slice ao nk cap] 25)) w' pb G' h c → DS w0 w' pb G h c) := fun w' c e => D2.then hG2 e
  have HK2 : Hid (KV B (w.alloc (.cells #[.int .i64 7, .int .i64 m, .int .i64 na, .int .i64 nb, .bool ng, .string nn, .slice sa sl sc, .slice ao nk cap] 25)) ao ks) := hkv.below hBB
  obtain ⟨w2, hw2⟩ : ∃ w2, w.alloc (.cells #[.int .i64 7, .int .i64 m, .int .i64 na, .int .i64 nb, .bool ng, .string nn, .slice sa sl sc, .slice ao nk cap] 25) = w2 := ⟨_, rfl⟩
  have HW2 : Hid (w.alloc (.cells #[.int .i64 7, .int .i64 m, .int .i64 na, .int .i64 nb, .bool ng, .string nn, .slice sa sl sc, .slice ao nk cap] 25) = w2) := hw2
  rw [hw2] at HX2 hz HEnd E2 HK2
  have HBX : Hid (∀ w' c, DS w2 w' pb G' h c → Bk w' w.heap.size #[.int .i64 7, .int .i64 m, .int .i64 na, .int .i64 nb, .bool ng, .string nn, .slice sa sl sc, .slice ao nk cap] 25) := fun w' c e => e.bk HX2.out HNP.out HGx.out
  have HBW : Hid (∀ w' c, DS w2 w' pb G' h c → Below B w2 w') := fun w' c e => e.below (by omega) hB HGB.out
  have CF := full_d pb a G' h w2 w2 E2
  rw [decide_eq_false (by omega)] at CF
  have CG := alt_d h S ks HD hS hM2 E2 ao nk cap hnk hpos hcap HK2.out hB (by omega) HGB.out hb
  have x0 := HX2.out.cell 0 (u := .int .i64 7) rfl; have x1 := HX2.out.cell 1 (u := .int .i64 m) rfl; have x2 := HX2.out.cell 2 (u := .int .i64 na) rfl; have x3 := HX2.out.cell 3 (u := .int .i64 nb) rfl; have x4 := HX2.out.cell 4 (u := .bool ng) rfl; have x5 := HX2.out.cell 5 (u := .string nn) rfl; have x6 := HX2.out.cell 6 (u := .slice sa sl sc) rfl; have x7 := HX2.out.cell 7 (u := .slice ao nk cap) rfl
  clear HD
  clear W2 D2 E2 hG2 hne hp hs0 hkv hBB HK2 HGB hw2 HBW
  go_enter Tryz.func23, Tryz.ntmps23
  go_upto_region 1 with fail
  rw [HW2.out]
  go_wp2_with (first
    | (go_at_call 24; refine CF.mono ?_; clear CF; rintro e w3 ⟨rfl, hw3⟩; obtain rfl := hw3.symm; clear hw3)
    | (go_at_call 62; refine CG.mono ?_; clear CG; rintro e w4 ⟨rfl, c, k4, hnx⟩; have HD4 : Hid (DS w2 w4 pb G' h c) := k4; have HNX : Hid (Nx a c (choiceP [] (ks.map pcN)) (5002 + 6 * S)) := hnx; clear k4 hnx))
  go_end0
  exact ⟨rfl, c, HEnd.out _ _ HD4.out, HNX.out⟩
set_option maxRecDepth 10000 in
set_option maxHeartbeats 4000000 in
theorem node_11 (h : Hd) {w0 w : World} {pb B : Nat} {a : Pc (List R)} {G : Option Nat} (hp : DS w0 w pb G h a) (m na nb : Int) (ng : Bool) (nn : ByteArray) (sa : Option Addr) (sl sc : Nat) (ao : Option Addr) (nk cap : Nat) (ks : List Nd) (hkv : KV B w0 ao ks) (hB : B ≤ pb) (hBw : B ≤ w0.heap.size) (hG : ∀ x, G = some x → B ≤ x) (M : Nat) (t : Nd) (HD : Doc h M t) (hM : 5001 ≤ M) (hM2 : M ≤ 15000) (hks : ks = [t]) (hnk : nk = 1) (hcap : nk ≤ cap) (hb : a.1.length ≤ 5000) :
    Calls Tryz.prog 23 #[.pointer (some ⟨pb, 0, none⟩), .agg #[.int .i64 11, .int .i64 m, .int .i64 na, .int .i64 nb, .bool ng, .string nn, .slice sa sl sc, .slice ao nk cap]] w fun e w' => e = .returned (.tuple #[]) ∧ ∃ c, DS w0 w' pb G h c ∧ Nx a c (blockP [] (ins [] 9 0 0) (pcN t)) (M + 2) := by
  have W2 : Below w.heap.size w (w.alloc (.cells #[.int .i64 11, .int .i64 m, .int .i64 na, .int .i64 nb, .bool ng, .string nn, .slice sa sl sc, .slice ao nk cap] 25)) := (Below.refl _ w).alloc (Nat.le_refl _) _
  have D2 := hp.on W2
  obtain ⟨G', E2, hG2, hne⟩ := D2.again
  have hs0 := hp.kq.size
  have hpb := hp.lt
  have HX2 : Hid (Bk (w.alloc (.cells #[.int .i64 11, .int .i64 m, .int .i64 na, .int .i64 nb, .bool ng, .string nn, .slice sa sl sc, .slice ao nk cap] 25)) w.heap.size #[.int .i64 11, .int .i64 m, .int .i64 na, .int .i64 nb, .bool ng, .string nn, .slice sa sl sc, .slice ao nk cap] 25) := Bk.new w _ _
  have hz : (w.alloc (.cells #[.int .i64 11, .int .i64 m, .int .i64 na, .int .i64 nb, .bool ng, .string nn, .slice sa sl sc, .slice ao nk cap] 25)).heap.size = w.heap.size + 1 := by simp
  have HNP : Hid (w.heap.size ≠ pb) := by unfold Hid; omega
  have HGx : Hid (some w.heap.size ≠ G') := hne _ _ _ HX2.out (by decide)
  have HGB : Hid (∀ x, G' = some x → B ≤ x) := fun x e => by rcases hG2 x e with e' | e'; exact hG x e'.symm; omega
  have hBB : Below B w0 (w.alloc (.cells #[.int .i64 11, .int .i64 m, .int .i64 na, .int .i64 nb, .bool ng, .string nn, .slice sa sl sc, .slice ao nk cap] 25)) := D2.below hBw hB hG
  have HEnd : Hid (∀ w' c, DS (w.alloc (.cells #[.int .i64 11, .int .i64 m, .int .i64 na, .int .i64 nb, .bool ng, .string nn, .slice sa sl sc, .slice ao nk cap] 25)) w' pb G' h c → DS w0 w' pb G h c) := fun w' c e => D2.then hG2 e
  have HK2 : Hid (KV B (w.alloc (.cells #[.int .i64 11, .int .i64 m, .int .i64 na, .int .i64 nb, .bool ng, .string nn, .slice sa sl sc, .slice ao nk cap] 25)) ao ks) := hkv.below hBB
  obtain ⟨w2, hw2⟩ : ∃ w2, w.alloc (.cells #[.int .i64 11, .int .i64 m, .int .i64 na, .int .i64 nb, .bool ng, .string nn, .slice sa sl sc, .slice ao nk cap] 25) = w2 := ⟨_, rfl⟩
  have HW2 : Hid (w.alloc (.cells #[.int .i64 11, .int .i64 m, .int .i64 na, .int .i64 nb, .bool ng, .string nn, .slice sa sl sc, .slice ao nk cap] 25) = w2) := hw2
  rw [hw2] at HX2 hz HEnd E2 HK2
  have HBX : Hid (∀ w' c, DS w2 w' pb G' h c → Bk w' w.heap.size #[.int .i64 11, .int .i64 m, .int .i64 na, .int .i64 nb, .bool ng, .string nn, .slice sa sl sc, .slice ao nk cap] 25) := fun w' c e => e.bk HX2.out HNP.out HGx.out
  have HBW : Hid (∀ w' c, DS w2 w' pb G' h c → Below B w2 w') := fun w' c e => e.below (by omega) hB HGB.out
  subst hks hnk
  have CF := full_d pb a G' h w2 w2 E2
  rw [decide_eq_false (by omega)] at CF
  obtain ⟨kb, ko, c0, c1, c2, c3, c4, c5, c6, c7, rfl, hkn, HKC⟩ := kid_at HK2.out
  obtain ⟨z0, z1, z2, z3, z4, z5, z6, z7⟩ := HKC w2 (Below.refl _ _)
  have CG := block_d h M t HD hM hM2 E2 9 0 0 0 0 none 0 0 [] (qo_nil _) _ hkn hB (by omega) HGB.out hb (.inr rfl)
  have x0 := HX2.out.cell 0 (u := .int .i64 11) rfl; have x1 := HX2.out.cell 1 (u := .int .i64 m) rfl; have x2 := HX2.out.cell 2 (u := .int .i64 na) rfl; have x3 := HX2.out.cell 3 (u := .int .i64 nb) rfl; have x4 := HX2.out.cell 4 (u := .bool ng) rfl; have x5 := HX2.out.cell 5 (u := .string nn) rfl; have x6 := HX2.out.cell 6 (u := .slice sa sl sc) rfl; have x7 := HX2.out.cell 7 (u := .slice (some ⟨kb, ko, none⟩) 1 cap) rfl
  clear HD HKC hkn
  clear W2 D2 E2 hG2 hne hp hs0 hkv hBB HK2 HGB hw2 HBW
  go_enter Tryz.func23, Tryz.ntmps23
  go_upto_region 1 with fail
  rw [HW2.out]
  go_wp2_with (first
    | (go_at_call 24; refine CF.mono ?_; clear CF; rintro e w3 ⟨rfl, hw3⟩; obtain rfl := hw3.symm; clear hw3)
    | (go_at_call 64; refine CG.mono ?_; clear CG; rintro e w4 ⟨rfl, c, k4, hnx⟩; have HD4 : Hid (DS w2 w4 pb G' h c) := k4; have HNX : Hid (Nx a c (blockP [] (ins [] 9 0 0) (pcN t)) (M + 2)) := hnx; clear k4 hnx))
  go_end0
  exact ⟨rfl, c, HEnd.out _ _ HD4.out, HNX.out⟩
end Go.Proofs.YtjbcapnpknbbaaaGreat.cmp
