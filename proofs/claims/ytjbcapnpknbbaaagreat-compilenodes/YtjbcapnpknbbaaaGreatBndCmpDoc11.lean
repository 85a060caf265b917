/- Texts that the proof leans on, one behind the other. -/
import Derived.Test.YtjbcapnpknbbaaaGreatCmpDoc10
import Derived.Test.YtjbcapnpknbbaaaGreatCmpProgOk
import Derived.Laws.AppendOwnNone
import Derived.Test.YtjbcapnpknbbaaaGreatWidRefA

section
/- The document's builder: node: a set, a sequence, a repetition, a look. -/
set_option linter.unusedVariables false
set_option linter.unusedSimpArgs false
namespace Go.Proofs.YtjbcapnpknbbaaaGreat.cmp
open Go.RowKit nod
open Go.Proofs.YtjbcapnpknbbaaaGreat.rng (R RV info_parts)
open Go.Proofs.YtjbcapnpknbbaaaGreat.wid (ofN)
set_option maxRecDepth 10000 in
set_option maxHeartbeats 4000000 in
theorem node_15s (h : Hd) {w0 w : World} {pb B : Nat} {a : Pc (List R)} {G : Option Nat} (hp : DS w0 w pb G h a) (m na nb : Int) (ng : Bool) (nn : ByteArray) (sa : Option Addr) (sl sc : Nat) (ao : Option Addr) (nk cap : Nat) (ks : List Nd) (hkv : KV B w0 ao ks) (hB : B ≤ pb) (hBw : B ≤ w0.heap.size) (hG : ∀ x, G = some x → B ≤ x) (st : List R) (hst : RV w0 sa st) (hsB : ∀ x, sa = some x → st ≠ [] → x.block < B) (hsl : st.length = sl) (hsn : sa = none → sc = 0) (hl : st.length ≤ 8796093021952) (ad0 : Addr) (hx0 : sa = some ad0) (hb : a.1.length ≤ 5000) :
    Calls Tryz.prog 23 #[.pointer (some ⟨pb, 0, none⟩), .agg #[.int .i64 15, .int .i64 m, .int .i64 na, .int .i64 nb, .bool ng, .string nn, .slice sa sl sc, .slice ao nk cap]] w fun e w' => e = .returned (.tuple #[]) ∧ ∃ c, DS w0 w' pb G h c ∧ Nx a c (oneP ⟨1, 0, 0, 0, 0, st⟩) (5001) := by
  have W2 : Below w.heap.size w (w.alloc (.cells #[.int .i64 15, .int .i64 m, .int .i64 na, .int .i64 nb, .bool ng, .string nn, .slice sa sl sc, .slice ao nk cap] 25)) := (Below.refl _ w).alloc (Nat.le_refl _) _
  have D2 := hp.on W2
  obtain ⟨G', E2, hG2, hne⟩ := D2.again
  have hs0 := hp.kq.size
  have hpb := hp.lt
  have HX2 : Hid (Bk (w.alloc (.cells #[.int .i64 15, .int .i64 m, .int .i64 na, .int .i64 nb, .bool ng, .string nn, .slice sa sl sc, .slice ao nk cap] 25)) w.heap.size #[.int .i64 15, .int .i64 m, .int .i64 na, .int .i64 nb, .bool ng, .string nn, .slice sa sl sc, .slice ao nk cap] 25) := Bk.new w _ _
  have hz : (w.alloc (.cells #[.int .i64 15, .int .i64 m, .int .i64 na, .int .i64 nb, .bool ng, .string nn, .slice sa sl sc, .slice ao nk cap] 25)).heap.size = w.heap.size + 1 := by simp
  have HNP : Hid (w.heap.size ≠ pb) := by unfold Hid; omega
  have HGx : Hid (some w.heap.size ≠ G') := hne _ _ _ HX2.out (by decide)
  have HGB : Hid (∀ x, G' = some x → B ≤ x) := fun x e => by rcases hG2 x e with e' | e'; exact hG x e'.symm; omega
  have hBB : Below B w0 (w.alloc (.cells #[.int .i64 15, .int .i64 m, .int .i64 na, .int .i64 nb, .bool ng, .string nn, .slice sa sl sc, .slice ao nk cap] 25)) := D2.below hBw hB hG
  have HEnd : Hid (∀ w' c, DS (w.alloc (.cells #[.int .i64 15, .int .i64 m, .int .i64 na, .int .i64 nb, .bool ng, .string nn, .slice sa sl sc, .slice ao nk cap] 25)) w' pb G' h c → DS w0 w' pb G h c) := fun w' c e => D2.then hG2 e
  have HK2 : Hid (KV B (w.alloc (.cells #[.int .i64 15, .int .i64 m, .int .i64 na, .int .i64 nb, .bool ng, .string nn, .slice sa sl sc, .slice ao nk cap] 25)) ao ks) := hkv.below hBB
  obtain ⟨w2, hw2⟩ : ∃ w2, w.alloc (.cells #[.int .i64 15, .int .i64 m, .int .i64 na, .int .i64 nb, .bool ng, .string nn, .slice sa sl sc, .slice ao nk cap] 25) = w2 := ⟨_, rfl⟩
  have HW2 : Hid (w.alloc (.cells #[.int .i64 15, .int .i64 m, .int .i64 na, .int .i64 nb, .bool ng, .string nn, .slice sa sl sc, .slice ao nk cap] 25) = w2) := hw2
  rw [hw2] at HX2 hz HEnd E2 HK2
  have HBX : Hid (∀ w' c, DS w2 w' pb G' h c → Bk w' w.heap.size #[.int .i64 15, .int .i64 m, .int .i64 na, .int .i64 nb, .bool ng, .string nn, .slice sa sl sc, .slice ao nk cap] 25) := fun w' c e => e.bk HX2.out HNP.out HGx.out
  have HBW : Hid (∀ w' c, DS w2 w' pb G' h c → Below B w2 w') := fun w' c e => e.below (by omega) hB HGB.out
  subst hx0
  obtain ⟨i0, hi, hz0, hz1, hz2⟩ := info_parts rng.infoRange
  have CF := full_d pb a G' h w2 w2 E2
  rw [decide_eq_false (by omega)] at CF
  have HV : Hid (∀ (j : Nat) u, (rng.flat st)[j]? = some u → w2.cell? (ad0.add j) = some u) := rng.rv_news (rv_below hst hsB (hw2 ▸ hBB))
  have HL : Hid (st.length = sl) := hsl
  have hl2 : sl ≤ 8796093021952 := by omega
  have HE2 : Hid (DS w2 w2 pb G' h a) := E2
  have x0 := HX2.out.cell 0 (u := .int .i64 15) rfl; have x1 := HX2.out.cell 1 (u := .int .i64 m) rfl; have x2 := HX2.out.cell 2 (u := .int .i64 na) rfl; have x3 := HX2.out.cell 3 (u := .int .i64 nb) rfl; have x4 := HX2.out.cell 4 (u := .bool ng) rfl; have x5 := HX2.out.cell 5 (u := .string nn) rfl; have x6 := HX2.out.cell 6 (u := .slice (some ad0) sl sc) rfl; have x7 := HX2.out.cell 7 (u := .slice ao nk cap) rfl
  have y6 : (w2.alloc (.cells #[] 44)).cell? ⟨w.heap.size, 6, none⟩ = some (.slice (some ad0) sl sc) := cell_past _ x6
  clear hst hsB hsl hl hz
  clear W2 D2 E2 hG2 hne hp hs0 hkv hBB HK2 HGB hw2 HBW
  go_enter Tryz.func23, Tryz.ntmps23
  go_upto_region 1 with fail
  rw [HW2.out]
  go_wp2_with (first
    | (go_at_call 24; refine CF.mono ?_; clear CF; rintro e w3 ⟨rfl, hw3⟩; obtain rfl := hw3.symm; clear hw3)
    | (at_builtin; refine wpList_append_own _ rfl _ _ 22 rfl w2.heap.size 44 i0 (.agg #[.int .i64 0, .int .i64 0]) 2 16 Tryz.underlying22 hi hz0 hz1 hz2 rfl (by decide) _ _ _ rfl (World.ownsRow_made w2 #[] 0 (Nat.le_refl _) (by decide) rfl) ad0 sl sc (rng.flat st) rfl (by rw [rng.flat_length, HL.out]) (fun j u hj => (World.grownBy_alloc w2 _ none).cell (HV.out j u hj) (by simp)) (rng.flat_one st) (by unfold maxLen; omega) (by omega) (by simp) ?_))
  intro v' w5 hown hgrow _
  have bb : Below w2.heap.size w2 w5 := ((Below.refl w2.heap.size w2).alloc (Nat.le_refl _) _).grown hgrow (by simp) (fun k e => by cases e; exact Nat.le_refl _)
  obtain ⟨va, vn, vc, rfl⟩ := own_form hown
  have hown2 : w5.ownsRow w2.heap.size 44 2 (.slice va vn vc) st.length (rng.flat st) := by rw [HL.out]; simpa using hown
  have hvn : vn = st.length := by
    rcases hown2.2 with ⟨e, h0⟩ | ⟨g, cp, cur, e, _⟩
    · cases e; exact h0.symm
    · cases e; rfl
  have hq5 : QO w5 (va, vn, vc) st := own_less hown2 (Nat.zero_le _)
  have CP := put_d (HE2.out.on bb) 1 0 0 0 0 va vn vc st hq5 (by omega)
  clear hown hgrow hown2 hvn hq5 bb HE2 HV
  go_wp2_with (first
    | (go_at_call 22; refine CP.mono ?_; clear CP; rintro e w6 ⟨rfl, k6⟩; have HD6 : Hid (DS w2 w6 pb G' h (putP a [⟨1, 0, 0, 0, 0, st⟩])) := k6; clear k6))
  go_end0
  exact ⟨rfl, _, HEnd.out _ _ HD6.out, nx_one a _ (.inl rfl) hb⟩
set_option maxRecDepth 10000 in
set_option maxHeartbeats 4000000 in
theorem node_15n (h : Hd) {w0 w : World} {pb B : Nat} {a : Pc (List R)} {G : Option Nat} (hp : DS w0 w pb G h a) (m na nb : Int) (ng : Bool) (nn : ByteArray) (sa : Option Addr) (sl sc : Nat) (ao : Option Addr) (nk cap : Nat) (ks : List Nd) (hkv : KV B w0 ao ks) (hB : B ≤ pb) (hBw : B ≤ w0.heap.size) (hG : ∀ x, G = some x → B ≤ x) (st : List R) (hst : RV w0 sa st) (hsB : ∀ x, sa = some x → st ≠ [] → x.block < B) (hsl : st.length = sl) (hsn : sa = none → sc = 0) (hl : st.length ≤ 8796093021952) (hx0 : sa = none) (hb : a.1.length ≤ 5000) :
    Calls Tryz.prog 23 #[.pointer (some ⟨pb, 0, none⟩), .agg #[.int .i64 15, .int .i64 m, .int .i64 na, .int .i64 nb, .bool ng, .string nn, .slice sa sl sc, .slice ao nk cap]] w fun e w' => e = .returned (.tuple #[]) ∧ ∃ c, DS w0 w' pb G h c ∧ Nx a c (oneP ⟨1, 0, 0, 0, 0, st⟩) (5001) := by
  have W2 : Below w.heap.size w (w.alloc (.cells #[.int .i64 15, .int .i64 m, .int .i64 na, .int .i64 nb, .bool ng, .string nn, .slice sa sl sc, .slice ao nk cap] 25)) := (Below.refl _ w).alloc (Nat.le_refl _) _
  have D2 := hp.on W2
  obtain ⟨G', E2, hG2, hne⟩ := D2.again
  have hs0 := hp.kq.size
  have hpb := hp.lt
  have HX2 : Hid (Bk (w.alloc (.cells #[.int .i64 15, .int .i64 m, .int .i64 na, .int .i64 nb, .bool ng, .string nn, .slice sa sl sc, .slice ao nk cap] 25)) w.heap.size #[.int .i64 15, .int .i64 m, .int .i64 na, .int .i64 nb, .bool ng, .string nn, .slice sa sl sc, .slice ao nk cap] 25) := Bk.new w _ _
  have hz : (w.alloc (.cells #[.int .i64 15, .int .i64 m, .int .i64 na, .int .i64 nb, .bool ng, .string nn, .slice sa sl sc, .slice ao nk cap] 25)).heap.size = w.heap.size + 1 := by simp
  have HNP : Hid (w.heap.size ≠ pb) := by unfold Hid; omega
  have HGx : Hid (some w.heap.size ≠ G') := hne _ _ _ HX2.out (by decide)
  have HGB : Hid (∀ x, G' = some x → B ≤ x) := fun x e => by rcases hG2 x e with e' | e'; exact hG x e'.symm; omega
  have hBB : Below B w0 (w.alloc (.cells #[.int .i64 15, .int .i64 m, .int .i64 na, .int .i64 nb, .bool ng, .string nn, .slice sa sl sc, .slice ao nk cap] 25)) := D2.below hBw hB hG
  have HEnd : Hid (∀ w' c, DS (w.alloc (.cells #[.int .i64 15, .int .i64 m, .int .i64 na, .int .i64 nb, .bool ng, .string nn, .slice sa sl sc, .slice ao nk cap] 25)) w' pb G' h c → DS w0 w' pb G h c) := fun w' c e => D2.then hG2 e
  have HK2 : Hid (KV B (w.alloc (.cells #[.int .i64 15, .int .i64 m, .int .i64 na, .int .i64 nb, .bool ng, .string nn, .slice sa sl sc, .slice ao nk cap] 25)) ao ks) := hkv.below hBB
  obtain ⟨w2, hw2⟩ : ∃ w2, w.alloc (.cells #[.int .i64 15, .int .i64 m, .int .i64 na, .int .i64 nb, .bool ng, .string nn, .slice sa sl sc, .slice ao nk cap] 25) = w2 := ⟨_, rfl⟩
  have HW2 : Hid (w.alloc (.cells #[.int .i64 15, .int .i64 m, .int .i64 na, .int .i64 nb, .bool ng, .string nn, .slice sa sl sc, .slice ao nk cap] 25) = w2) := hw2
  rw [hw2] at HX2 hz HEnd E2 HK2
  have HBX : Hid (∀ w' c, DS w2 w' pb G' h c → Bk w' w.heap.size #[.int .i64 15, .int .i64 m, .int .i64 na, .int .i64 nb, .bool ng, .string nn, .slice sa sl sc, .slice ao nk cap] 25) := fun w' c e => e.bk HX2.out HNP.out HGx.out
  have HBW : Hid (∀ w' c, DS w2 w' pb G' h c → Below B w2 w') := fun w' c e => e.below (by omega) hB HGB.out
  subst hx0
  have hst0 : st = [] := by
    rcases hst with e | ⟨b, off, e, _⟩
    · exact e
    · cases e
  subst hst0
  have hsc := hsn rfl
  subst hsc
  simp only [List.length_nil] at hsl
  subst hsl
  obtain ⟨i0, hi, hz0, hz1, hz2⟩ := info_parts rng.infoRange
  have CF := full_d pb a G' h w2 w2 E2
  rw [decide_eq_false (by omega)] at CF
  have bb : Below w2.heap.size w2 (w2.alloc (.cells #[] 44)) := (Below.refl _ _).alloc (Nat.le_refl _) _
  have hown2 : (w2.alloc (.cells #[] 44)).ownsRow w2.heap.size 44 2 (.slice (some ⟨w2.heap.size, 0, none⟩) 0 0) 0 [] := World.ownsRow_made w2 #[] 0 (Nat.le_refl _) (by decide) rfl
  have hq5 : QO (w2.alloc (.cells #[] 44)) (some ⟨w2.heap.size, 0, none⟩, 0, 0) [] := own_less hown2 (Nat.zero_le _)
  have CP := put_d (E2.on bb) 1 0 0 0 0 _ 0 0 [] hq5 (by omega)
  obtain ⟨st, hst⟩ : ∃ st : List R, st = [] := ⟨_, rfl⟩
  have x0 := HX2.out.cell 0 (u := .int .i64 15) rfl; have x1 := HX2.out.cell 1 (u := .int .i64 m) rfl; have x2 := HX2.out.cell 2 (u := .int .i64 na) rfl; have x3 := HX2.out.cell 3 (u := .int .i64 nb) rfl; have x4 := HX2.out.cell 4 (u := .bool ng) rfl; have x5 := HX2.out.cell 5 (u := .string nn) rfl; have x6 := HX2.out.cell 6 (u := .slice none 0 0) rfl; have x7 := HX2.out.cell 7 (u := .slice ao nk cap) rfl
  have y6 : (w2.alloc (.cells #[] 44)).cell? ⟨w.heap.size, 6, none⟩ = some (.slice none 0 0) := cell_past _ x6
  clear bb hq5 hsn hsB hst hz
  clear W2 D2 E2 hG2 hne hp hs0 hkv hBB HK2 HGB hw2 HBW
  go_enter Tryz.func23, Tryz.ntmps23
  go_upto_region 1 with fail
  rw [HW2.out]
  go_wp2_with (first
    | (go_at_call 24; refine CF.mono ?_; clear CF; rintro e w3 ⟨rfl, hw3⟩; obtain rfl := hw3.symm; clear hw3)
    | (at_builtin; refine wpList_append_own_none rfl _ _ 22 rfl w2.heap.size 44 i0 2 Tryz.underlying22 hi _ _ _ rfl hown2 rfl ?_)
    | (go_at_call 22; refine CP.mono ?_; clear CP; rintro e w6 ⟨rfl, k6⟩; have HD6 : Hid (DS w2 w6 pb G' h (putP a [⟨1, 0, 0, 0, 0, []⟩])) := k6; clear k6))
  go_end0
  exact ⟨rfl, _, HEnd.out _ _ HD6.out, nx_one a _ (.inl rfl) hb⟩
theorem row_snoc (l : List (Pc (List R))) (q : Pc (List R)) : rowP (l ++ [q]) = addP (rowP l) q := by rw [rowP_append, rowP_cons, rowP_nil, addP_zero]
theorem len_row (l : List (Pc (List R))) : (rowP l).1.length = lensP l := by
  induction l with
  | nil => rfl
  | cons x l ih => rw [rowP_cons, len_addP, ih]; simp [lensP]
/-- How far a sequence is laid. -/
structure SeqD (a : Pc (List R)) (Q : List (Pc (List R))) (j m : Nat) (c : Pc (List R)) : Prop where
  st : c = addP a (rowP (Q.take j)) ∨ (5000 < c.1.length ∧ 5000 < a.1.length + (rowP Q).1.length)
  ge : a.1.length ≤ c.1.length
  le : c.1.length ≤ m
theorem seq_step {a c c2 q : Pc (List R)} {Q : List (Pc (List R))} {j m M : Nat} (h : SeqD a Q j m c) (hq : Q[j]? = some q) (hn : Nx c c2 q M) (m' : Nat) (hm : m ≤ m') (hM : M ≤ m') : SeqD a Q (j + 1) m' c2 := by
  obtain ⟨st, ge, le⟩ := h
  have h2 := hn.2.1
  have h3 := hn.2.2
  refine ⟨?_, by omega, by omega⟩
  rcases st with st | st
  · rcases hn.1 with hx | hx
    · exact .inl (by rw [hx, st, takeX hq, row_snoc, addP_assoc])
    · refine .inr ⟨hx.1, ?_⟩
      rw [st, len_addP, len_row] at hx
      rw [len_row]
      have e1 := lens_app (Q.take (j + 1)) (Q.drop (j + 1))
      rw [List.take_append_drop, takeX hq, lens_app] at e1
      have e2 : lensP [q] = q.1.length := by simp [lensP]
      omega
  · exact .inr ⟨by omega, st.2⟩
set_option maxRecDepth 10000 in
set_option maxHeartbeats 4000000 in
theorem node_6 (h : Hd) {w0 w : World} {pb B : Nat} {a : Pc (List R)} {G : Option Nat} (hp : DS w0 w pb G h a) (m na nb : Int) (ng : Bool) (nn : ByteArray) (sa : Option Addr) (sl sc : Nat) (ao : Option Addr) (nk cap : Nat) (ks : List Nd) (hkv : KV B w0 ao ks) (hB : B ≤ pb) (hBw : B ≤ w0.heap.size) (hG : ∀ x, G = some x → B ≤ x) (S : Nat) (HD : ∀ t ∈ ks, Doc h (5001 + 6 * t.sz) t) (hS : szL ks = S) (hM2 : S ≤ 600) (hnk : ks.length = nk) (hcap : nk ≤ cap) (hb : a.1.length ≤ 5000) :
    Calls Tryz.prog 23 #[.pointer (some ⟨pb, 0, none⟩), .agg #[.int .i64 6, .int .i64 m, .int .i64 na, .int .i64 nb, .bool ng, .string nn, .slice sa sl sc, .slice ao nk cap]] w fun e w' => e = .returned (.tuple #[]) ∧ ∃ c, DS w0 w' pb G h c ∧ Nx a c (rowP (ks.map pcN)) (5001 + 6 * S) := by
  have W2 : Below w.heap.size w (w.alloc (.cells #[.int .i64 6, .int .i64 m, .int .i64 na, .int .i64 nb, .bool ng, .string nn, .slice sa sl sc, .slice ao nk cap] 25)) := (Below.refl _ w).alloc (Nat.le_refl _) _
  have D2 := hp.on W2
  obtain ⟨G', E2, hG2, hne⟩ := D2.again
  have hs0 := hp.kq.size
  have hpb := hp.lt
  have HX2 : Hid (Bk (w.alloc (.cells #[.int .i64 6, .int .i64 m, .int .i64 na, .int .i64 nb, .bool ng, .string nn, .slice sa sl sc, .slice ao nk cap] 25)) w.heap.size #[.int .i64 6, .int .i64 m, .int .i64 na, .int .i64 nb, .bool ng, .string nn, .slice sa sl sc, .slice ao nk cap] 25) := Bk.new w _ _
  have hz : (w.alloc (.cells #[.int .i64 6, .int .i64 m, .int .i64 na, .int .i64 nb, .bool ng, .string nn, .slice sa sl sc, .slice ao nk cap] 25)).heap.size = w.heap.size + 1 := by simp
  have HNP : Hid (w.heap.size ≠ pb) := by unfold Hid; omega
  have HGx : Hid (some w.heap.size ≠ G') := hne _ _ _ HX2.out (by decide)
  have HGB : Hid (∀ x, G' = some x → B ≤ x) := fun x e => by rcases hG2 x e with e' | e'; exact hG x e'.symm; omega
  have hBB : Below B w0 (w.alloc (.cells #[.int .i64 6, .int .i64 m, .int .i64 na, .int .i64 nb, .bool ng, .string nn, .slice sa sl sc, .slice ao nk cap] 25)) := D2.below hBw hB hG
  have HEnd : Hid (∀ w' c, DS (w.alloc (.cells #[.int .i64 6, .int .i64 m, .int .i64 na, .int .i64 nb, .bool ng, .string nn, .slice sa sl sc, .slice ao nk cap] 25)) w' pb G' h c → DS w0 w' pb G h c) := fun w' c e => D2.then hG2 e
  have HK2 : Hid (KV B (w.alloc (.cells #[.int .i64 6, .int .i64 m, .int .i64 na, .int .i64 nb, .bool ng, .string nn, .slice sa sl sc, .slice ao nk cap] 25)) ao ks) := hkv.below hBB
  obtain ⟨w2, hw2⟩ : ∃ w2, w.alloc (.cells #[.int .i64 6, .int .i64 m, .int .i64 na, .int .i64 nb, .bool ng, .string nn, .slice sa sl sc, .slice ao nk cap] 25) = w2 := ⟨_, rfl⟩
  have HW2 : Hid (w.alloc (.cells #[.int .i64 6, .int .i64 m, .int .i64 na, .int .i64 nb, .bool ng, .string nn, .slice sa sl sc, .slice ao nk cap] 25) = w2) := hw2
  rw [hw2] at HX2 hz HEnd E2 HK2
  have HBX : Hid (∀ w' c, DS w2 w' pb G' h c → Bk w' w.heap.size #[.int .i64 6, .int .i64 m, .int .i64 na, .int .i64 nb, .bool ng, .string nn, .slice sa sl sc, .slice ao nk cap] 25) := fun w' c e => e.bk HX2.out HNP.out HGx.out
  have HBW : Hid (∀ w' c, DS w2 w' pb G' h c → Below B w2 w') := fun w' c e => e.below (by omega) hB HGB.out
  have CF := full_d pb a G' h w2 w2 E2
  rw [decide_eq_false (by omega)] at CF
  have hnk6 : nk ≤ 600 := by have := low.len_szL ks; omega
  have HNK : Hid (ks.length = nk) := hnk
  have HSS : Hid (szL ks = S) := hS
  have HDD : Hid (∀ t ∈ ks, Doc h (5001 + 6 * t.sz) t) := HD
  have HE2 : Hid (DS w2 w2 pb G' h a) := E2
  have S0 : Hid (SeqD a (ks.map pcN) 0 (5001 + 6 * S) a) := ⟨.inl (by rw [List.take_zero, rowP_nil, addP_zero]), Nat.le_refl _, by omega⟩
  have HGC : Hid (∀ x, G' = some x → B ≤ x) := HGB.out
  have HKV : Hid (KV B w2 ao ks) := HK2.out
  have HBV : Hid (∀ w' c, DS w2 w' pb G' h c → Below B w2 w') := HBW.out
  have hBs : B ≤ w2.heap.size := by omega
  have x0 := HX2.out.cell 0 (u := .int .i64 6) rfl; have x1 := HX2.out.cell 1 (u := .int .i64 m) rfl; have x2 := HX2.out.cell 2 (u := .int .i64 na) rfl; have x3 := HX2.out.cell 3 (u := .int .i64 nb) rfl; have x4 := HX2.out.cell 4 (u := .bool ng) rfl; have x5 := HX2.out.cell 5 (u := .string nn) rfl; have x6 := HX2.out.cell 6 (u := .slice sa sl sc) rfl; have x7 := HX2.out.cell 7 (u := .slice ao nk cap) rfl
  clear HD hnk hS
  clear W2 D2 E2 hG2 hne hp hs0 hkv hBB HK2 HGB hw2 HBW
  go_enter Tryz.func23, Tryz.ntmps23
  go_upto_region 1 with fail
  rw [HW2.out]
  go_wp2_with (first
    | (go_at_call 24; refine CF.mono ?_; clear CF; rintro e w3 ⟨rfl, hw3⟩; obtain rfl := hw3.symm; clear hw3))
  go_loopw [25] (fun i wr => ∃ (j : Nat) (c : Pc (List R)), j ≤ nk ∧ i = .int .i64 j ∧ Hid (DS w2 wr pb G' h c) ∧ Hid (SeqD a (ks.map pcN) j (5001 + 6 * S) c)) (fun i _ => nk - (intOf i).toNat)
  case atStart => exact ⟨0, a, Nat.zero_le _, rfl, HE2, S0⟩
  case round =>
    obtain ⟨j, c, hj, rfl, HDr, HSr⟩ := hrel
    clear HE2 S0 x0 x1 x2 x3 x4 x5 x6 x7
    by_cases hlt : j < nk
    · obtain ⟨t, ht⟩ := getX HNK.out hlt
      have hbr := HBV.out wr c HDr.out
      obtain ⟨bb, off, rfl, hka⟩ := (HKV.out.below hbr).some (by have := HNK.out; omega)
      obtain ⟨k', m', a', b', g', n', s', kk, sa', sc', ao', cap', rfl, ⟨e0, e1, e2, e3, e4, e5, e6, e7⟩, hv'⟩ := hka.kid ht
      have hmem := List.mem_of_getElem? ht
      have HQJ : Hid ((ks.map pcN)[j]? = some (pcN (.mk k' m' a' b' g' n' s' kk))) := by unfold Hid; rw [List.getElem?_map, ht]; rfl
      have hsz : Nd.sz (.mk k' m' a' b' g' n' s' kk) ≤ S := by have := szL_mem hmem; rw [HSS.out] at this; exact this
      generalize s'.length = sl' at *
      generalize kk.length = nk' at *
      have hwr := HDr.out.kq.size
      have W3 : Below wr.heap.size wr (wr.alloc (.cells #[.int .i64 k', .int .i64 m', .int .i64 a', .int .i64 b', .bool g', .string n', .slice sa' sl' sc', .slice ao' nk' cap'] 25)) := (Below.refl _ wr).alloc (Nat.le_refl _) _
      have D3 := HDr.out.on W3
      obtain ⟨G3, E3, hG3, _⟩ := D3.again
      have hG3B : ∀ x, G3 = some x → B ≤ x := fun x e => by
        rcases hG3 x e with e' | e'
        · exact HGC.out x e'.symm
        · omega
      have CN := HDD.out _ hmem (.agg #[.int .i64 k', .int .i64 m', .int .i64 a', .int .i64 b', .bool g', .string n', .slice sa' sl' sc', .slice ao' nk' cap']) B pb c G3 (wr.alloc (.cells #[.int .i64 k', .int .i64 m', .int .i64 a', .int .i64 b', .bool g', .string n', .slice sa' sl' sc', .slice ao' nk' cap'] 25)) (wr.alloc (.cells #[.int .i64 k', .int .i64 m', .int .i64 a', .int .i64 b', .bool g', .string n', .slice sa' sl' sc', .slice ao' nk' cap'] 25)) E3 (hv'.keep (below_less W3 (by omega))) hB (by simp; omega) hG3B (by have := HSr.out.le; omega)
      have HEnd3 : Hid (∀ w' c', DS (wr.alloc (.cells #[.int .i64 k', .int .i64 m', .int .i64 a', .int .i64 b', .bool g', .string n', .slice sa' sl' sc', .slice ao' nk' cap'] 25)) w' pb G3 h c' → DS w2 w' pb G' h c') := fun w' c' k => D3.then hG3 k
      obtain ⟨q, hq⟩ : ∃ q, pcN (.mk k' m' a' b' g' n' s' kk) = q := ⟨_, rfl⟩
      obtain ⟨tz, htz⟩ : ∃ tz, Nd.sz (.mk k' m' a' b' g' n' s' kk) = tz := ⟨_, rfl⟩
      rw [hq, htz] at CN
      rw [hq] at HQJ
      rw [htz] at hsz
      clear hka hv' ht hmem W3 D3 E3 hG3 hG3B hbr hq htz HDr hwr
      go_wp2_with (first
        | (go_at_call 23; refine CN.mono ?_; clear CN; rintro e w5 ⟨rfl, c2, k5, hnx⟩; have HD5 : Hid (DS w2 w5 pb G' h c2) := HEnd3.out _ _ k5; have HS5 : Hid (SeqD a (ks.map pcN) (j + 1) (5001 + 6 * S) c2) := seq_step HSr.out HQJ.out hnx _ (Nat.le_refl _) (by omega); clear k5 hnx))
      go_roundw
      case rel => exact ⟨j + 1, c2, by omega, by go_num, HD5, HS5⟩
      case measure => simp [intOf]; omega
    · have hjn : j = nk := by omega
      have HF : Hid (c = addP a (rowP (ks.map pcN)) ∨ (5000 < c.1.length ∧ 5000 < a.1.length + (rowP (ks.map pcN)).1.length)) := by
        have := HSr.out.st
        rw [hjn, List.take_of_length_le (by rw [List.length_map]; have := HNK.out; omega)] at this
        exact this
      clear hjn
      go_wp2
      go_end0
      exact ⟨rfl, c, HEnd.out _ _ HDr.out, HF.out, HSr.out.ge, by have := HSr.out.le; omega⟩
set_option maxRecDepth 10000 in
set_option maxHeartbeats 4000000 in
theorem node_8i (h : Hd) {w0 w : World} {pb B : Nat} {a : Pc (List R)} {G : Option Nat} (hp : DS w0 w pb G h a) (m na nb : Int) (ng : Bool) (nn : ByteArray) (sa : Option Addr) (sl sc : Nat) (ao : Option Addr) (nk cap : Nat) (ks : List Nd) (hkv : KV B w0 ao ks) (hB : B ≤ pb) (hBw : B ≤ w0.heap.size) (hG : ∀ x, G = some x → B ≤ x) (M : Nat) (t : Nd) (HD : Doc h M t) (hM : 5001 ≤ M) (hM2 : M ≤ 15000) (hks : ks = [t]) (hnk : nk = 1) (hcap : nk ≤ cap) (hg1 : 0 ≤ na) (hg2 : na ≤ 100) (hm : ¬ m = 2) (hb : a.1.length ≤ 5000) :
    Calls Tryz.prog 23 #[.pointer (some ⟨pb, 0, none⟩), .agg #[.int .i64 8, .int .i64 m, .int .i64 na, .int .i64 (-1), .bool ng, .string nn, .slice sa sl sc, .slice ao nk cap]] w fun e w' => e = .returned (.tuple #[]) ∧ ∃ c, DS w0 w' pb G h c ∧ Nx a c (repP [] m na (-1) (pcN t)) (M + 4) := by
  have W2 : Below w.heap.size w (w.alloc (.cells #[.int .i64 8, .int .i64 m, .int .i64 na, .int .i64 (-1), .bool ng, .string nn, .slice sa sl sc, .slice ao nk cap] 25)) := (Below.refl _ w).alloc (Nat.le_refl _) _
  have D2 := hp.on W2
  obtain ⟨G', E2, hG2, hne⟩ := D2.again
  have hs0 := hp.kq.size
  have hpb := hp.lt
  have HX2 : Hid (Bk (w.alloc (.cells #[.int .i64 8, .int .i64 m, .int .i64 na, .int .i64 (-1), .bool ng, .string nn, .slice sa sl sc, .slice ao nk cap] 25)) w.heap.size #[.int .i64 8, .int .i64 m, .int .i64 na, .int .i64 (-1), .bool ng, .string nn, .slice sa sl sc, .slice ao nk cap] 25) := Bk.new w _ _
  have hz : (w.alloc (.cells #[.int .i64 8, .int .i64 m, .int .i64 na, .int .i64 (-1), .bool ng, .string nn, .slice sa sl sc, .slice ao nk cap] 25)).heap.size = w.heap.size + 1 := by simp
  have HNP : Hid (w.heap.size ≠ pb) := by unfold Hid; omega
  have HGx : Hid (some w.heap.size ≠ G') := hne _ _ _ HX2.out (by decide)
  have HGB : Hid (∀ x, G' = some x → B ≤ x) := fun x e => by rcases hG2 x e with e' | e'; exact hG x e'.symm; omega
  have hBB : Below B w0 (w.alloc (.cells #[.int .i64 8, .int .i64 m, .int .i64 na, .int .i64 (-1), .bool ng, .string nn, .slice sa sl sc, .slice ao nk cap] 25)) := D2.below hBw hB hG
  have HEnd : Hid (∀ w' c, DS (w.alloc (.cells #[.int .i64 8, .int .i64 m, .int .i64 na, .int .i64 (-1), .bool ng, .string nn, .slice sa sl sc, .slice ao nk cap] 25)) w' pb G' h c → DS w0 w' pb G h c) := fun w' c e => D2.then hG2 e
  have HK2 : Hid (KV B (w.alloc (.cells #[.int .i64 8, .int .i64 m, .int .i64 na, .int .i64 (-1), .bool ng, .string nn, .slice sa sl sc, .slice ao nk cap] 25)) ao ks) := hkv.below hBB
  obtain ⟨w2, hw2⟩ : ∃ w2, w.alloc (.cells #[.int .i64 8, .int .i64 m, .int .i64 na, .int .i64 (-1), .bool ng, .string nn, .slice sa sl sc, .slice ao nk cap] 25) = w2 := ⟨_, rfl⟩
  have HW2 : Hid (w.alloc (.cells #[.int .i64 8, .int .i64 m, .int .i64 na, .int .i64 (-1), .bool ng, .string nn, .slice sa sl sc, .slice ao nk cap] 25) = w2) := hw2
  rw [hw2] at HX2 hz HEnd E2 HK2
  have HBX : Hid (∀ w' c, DS w2 w' pb G' h c → Bk w' w.heap.size #[.int .i64 8, .int .i64 m, .int .i64 na, .int .i64 (-1), .bool ng, .string nn, .slice sa sl sc, .slice ao nk cap] 25) := fun w' c e => e.bk HX2.out HNP.out HGx.out
  have HBW : Hid (∀ w' c, DS w2 w' pb G' h c → Below B w2 w') := fun w' c e => e.below (by omega) hB HGB.out
  subst hks hnk
  have CF := full_d pb a G' h w2 w2 E2
  rw [decide_eq_false (by omega)] at CF
  have hm2 : (m == 2) = false := by rw [beq_eq_false_iff_ne]; exact hm
  have CG := inf_d h M t HD hM hM2 E2 8 m na ng nn sa sl sc ao 1 cap [t] rfl rfl hcap HK2.out hB (by omega) HGB.out hb hg1 hg2 _ rfl
  have x0 := HX2.out.cell 0 (u := .int .i64 8) rfl; have x1 := HX2.out.cell 1 (u := .int .i64 m) rfl; have x2 := HX2.out.cell 2 (u := .int .i64 na) rfl; have x3 := HX2.out.cell 3 (u := .int .i64 (-1)) rfl; have x4 := HX2.out.cell 4 (u := .bool ng) rfl; have x5 := HX2.out.cell 5 (u := .string nn) rfl; have x6 := HX2.out.cell 6 (u := .slice sa sl sc) rfl; have x7 := HX2.out.cell 7 (u := .slice ao 1 cap) rfl
  clear HD hm
  clear W2 D2 E2 hG2 hne hp hs0 hkv hBB HK2 HGB hw2 HBW
  go_enter Tryz.func23, Tryz.ntmps23
  go_upto_region 1 with fail
  rw [HW2.out]
  go_wp2_with (first
    | (go_at_call 24; refine CF.mono ?_; clear CF; rintro e w3 ⟨rfl, hw3⟩; obtain rfl := hw3.symm; clear hw3)
    | (go_at_call 65; refine CG.mono ?_; clear CG; rintro e w4 ⟨rfl, c, k4, hnx⟩; have HD4 : Hid (DS w2 w4 pb G' h c) := k4; have HNX : Hid (Nx a c (repP [] m na (-1) (pcN t)) (M + 4)) := hnx; clear k4 hnx))
  go_end0
  exact ⟨rfl, c, HEnd.out _ _ HD4.out, HNX.out⟩
set_option maxRecDepth 10000 in
set_option maxHeartbeats 4000000 in
theorem node_8f (h : Hd) {w0 w : World} {pb B : Nat} {a : Pc (List R)} {G : Option Nat} (hp : DS w0 w pb G h a) (m na nb : Int) (ng : Bool) (nn : ByteArray) (sa : Option Addr) (sl sc : Nat) (ao : Option Addr) (nk cap : Nat) (ks : List Nd) (hkv : KV B w0 ao ks) (hB : B ≤ pb) (hBw : B ≤ w0.heap.size) (hG : ∀ x, G = some x → B ≤ x) (M : Nat) (t : Nd) (HD : Doc h M t) (hM : 5001 ≤ M) (hM2 : M ≤ 15000) (hks : ks = [t]) (hnk : nk = 1) (hcap : nk ≤ cap) (hg1 : 0 ≤ na) (hg2 : na ≤ 100) (hm : ¬ m = 2) (hg3 : na ≤ nb) (hg4 : nb ≤ 100) (hb : a.1.length ≤ 5000) :
    Calls Tryz.prog 23 #[.pointer (some ⟨pb, 0, none⟩), .agg #[.int .i64 8, .int .i64 m, .int .i64 na, .int .i64 nb, .bool ng, .string nn, .slice sa sl sc, .slice ao nk cap]] w fun e w' => e = .returned (.tuple #[]) ∧ ∃ c, DS w0 w' pb G h c ∧ Nx a c (repP [] m na nb (pcN t)) (M + 4) := by
  have W2 : Below w.heap.size w (w.alloc (.cells #[.int .i64 8, .int .i64 m, .int .i64 na, .int .i64 nb, .bool ng, .string nn, .slice sa sl sc, .slice ao nk cap] 25)) := (Below.refl _ w).alloc (Nat.le_refl _) _
  have D2 := hp.on W2
  obtain ⟨G', E2, hG2, hne⟩ := D2.again
  have hs0 := hp.kq.size
  have hpb := hp.lt
  have HX2 : Hid (Bk (w.alloc (.cells #[.int .i64 8, .int .i64 m, .int .i64 na, .int .i64 nb, .bool ng, .string nn, .slice sa sl sc, .slice ao nk cap] 25)) w.heap.size #[.int .i64 8, .int .i64 m, .int .i64 na, .int .i64 nb, .bool ng, .string nn, .slice sa sl sc, .slice ao nk cap] 25) := Bk.new w _ _
  have hz : (w.alloc (.cells #[.int .i64 8, .int .i64 m, .int .i64 na, .int .i64 nb, .bool ng, .string nn, .slice sa sl sc, .slice ao nk cap] 25)).heap.size = w.heap.size + 1 := by simp
  have HNP : Hid (w.heap.size ≠ pb) := by unfold Hid; omega
  have HGx : Hid (some w.heap.size ≠ G') := hne _ _ _ HX2.out (by decide)
  have HGB : Hid (∀ x, G' = some x → B ≤ x) := fun x e => by rcases hG2 x e with e' | e'; exact hG x e'.symm; omega
  have hBB : Below B w0 (w.alloc (.cells #[.int .i64 8, .int .i64 m, .int .i64 na, .int .i64 nb, .bool ng, .string nn, .slice sa sl sc, .slice ao nk cap] 25)) := D2.below hBw hB hG
  have HEnd : Hid (∀ w' c, DS (w.alloc (.cells #[.int .i64 8, .int .i64 m, .int .i64 na, .int .i64 nb, .bool ng, .string nn, .slice sa sl sc, .slice ao nk cap] 25)) w' pb G' h c → DS w0 w' pb G h c) := fun w' c e => D2.then hG2 e
  have HK2 : Hid (KV B (w.alloc (.cells #[.int .i64 8, .int .i64 m, .int .i64 na, .int .i64 nb, .bool ng, .string nn, .slice sa sl sc, .slice ao nk cap] 25)) ao ks) := hkv.below hBB
  obtain ⟨w2, hw2⟩ : ∃ w2, w.alloc (.cells #[.int .i64 8, .int .i64 m, .int .i64 na, .int .i64 nb, .bool ng, .string nn, .slice sa sl sc, .slice ao nk cap] 25) = w2 := ⟨_, rfl⟩
  have HW2 : Hid (w.alloc (.cells #[.int .i64 8, .int .i64 m, .int .i64 na, .int .i64 nb, .bool ng, .string nn, .slice sa sl sc, .slice ao nk cap] 25) = w2) := hw2
  rw [hw2] at HX2 hz HEnd E2 HK2
  have HBX : Hid (∀ w' c, DS w2 w' pb G' h c → Bk w' w.heap.size #[.int .i64 8, .int .i64 m, .int .i64 na, .int .i64 nb, .bool ng, .string nn, .slice sa sl sc, .slice ao nk cap] 25) := fun w' c e => e.bk HX2.out HNP.out HGx.out
  have HBW : Hid (∀ w' c, DS w2 w' pb G' h c → Below B w2 w') := fun w' c e => e.below (by omega) hB HGB.out
  subst hks hnk
  have CF := full_d pb a G' h w2 w2 E2
  rw [decide_eq_false (by omega)] at CF
  have hm2 : (m == 2) = false := by rw [beq_eq_false_iff_ne]; exact hm
  have CG := fin_d h M t HD hM hM2 E2 8 m na nb ng nn sa sl sc ao 1 cap [t] rfl rfl hcap HK2.out hB (by omega) HGB.out hb hg1 hg2 hg3 hg4 _ rfl
  have x0 := HX2.out.cell 0 (u := .int .i64 8) rfl; have x1 := HX2.out.cell 1 (u := .int .i64 m) rfl; have x2 := HX2.out.cell 2 (u := .int .i64 na) rfl; have x3 := HX2.out.cell 3 (u := .int .i64 nb) rfl; have x4 := HX2.out.cell 4 (u := .bool ng) rfl; have x5 := HX2.out.cell 5 (u := .string nn) rfl; have x6 := HX2.out.cell 6 (u := .slice sa sl sc) rfl; have x7 := HX2.out.cell 7 (u := .slice ao 1 cap) rfl
  clear HD hm
  clear W2 D2 E2 hG2 hne hp hs0 hkv hBB HK2 HGB hw2 HBW
  go_enter Tryz.func23, Tryz.ntmps23
  go_upto_region 1 with fail
  rw [HW2.out]
  go_wp2_with (first
    | (go_at_call 24; refine CF.mono ?_; clear CF; rintro e w3 ⟨rfl, hw3⟩; obtain rfl := hw3.symm; clear hw3)
    | (go_at_call 65; refine CG.mono ?_; clear CG; rintro e w4 ⟨rfl, c, k4, hnx⟩; have HD4 : Hid (DS w2 w4 pb G' h c) := k4; have HNX : Hid (Nx a c (repP [] m na nb (pcN t)) (M + 4)) := hnx; clear k4 hnx))
  go_end0
  exact ⟨rfl, c, HEnd.out _ _ HD4.out, HNX.out⟩
set_option maxRecDepth 10000 in
set_option maxHeartbeats 4000000 in
theorem node_8p (h : Hd) {w0 w : World} {pb B : Nat} {a : Pc (List R)} {G : Option Nat} (hp : DS w0 w pb G h a) (m na nb : Int) (ng : Bool) (nn : ByteArray) (sa : Option Addr) (sl sc : Nat) (ao : Option Addr) (nk cap : Nat) (ks : List Nd) (hkv : KV B w0 ao ks) (hB : B ≤ pb) (hBw : B ≤ w0.heap.size) (hG : ∀ x, G = some x → B ≤ x) (M : Nat) (t : Nd) (HD : Doc h M t) (hM : 5001 ≤ M) (hM2 : M ≤ 15000) (hvt : ∀ W, Below B w0 W → NV B W t (.agg #[.int .i64 8, .int .i64 0, .int .i64 na, .int .i64 nb, .bool ng, .string nn, .slice sa sl sc, .slice ao nk cap])) (hb : a.1.length ≤ 5000) :
    Calls Tryz.prog 23 #[.pointer (some ⟨pb, 0, none⟩), .agg #[.int .i64 8, .int .i64 2, .int .i64 na, .int .i64 nb, .bool ng, .string nn, .slice sa sl sc, .slice ao nk cap]] w fun e w' => e = .returned (.tuple #[]) ∧ ∃ c, DS w0 w' pb G h c ∧ Nx a c (blockP [] (ins [] 9 0 0) (pcN t)) (M + 2) := by
  have W2 : Below w.heap.size w (w.alloc (.cells #[.int .i64 8, .int .i64 2, .int .i64 na, .int .i64 nb, .bool ng, .string nn, .slice sa sl sc, .slice ao nk cap] 25)) := (Below.refl _ w).alloc (Nat.le_refl _) _
  have D2 := hp.on W2
  obtain ⟨G', E2, hG2, hne⟩ := D2.again
  have hs0 := hp.kq.size
  have hpb := hp.lt
  have HX2 : Hid (Bk (w.alloc (.cells #[.int .i64 8, .int .i64 2, .int .i64 na, .int .i64 nb, .bool ng, .string nn, .slice sa sl sc, .slice ao nk cap] 25)) w.heap.size #[.int .i64 8, .int .i64 2, .int .i64 na, .int .i64 nb, .bool ng, .string nn, .slice sa sl sc, .slice ao nk cap] 25) := Bk.new w _ _
  have hz : (w.alloc (.cells #[.int .i64 8, .int .i64 2, .int .i64 na, .int .i64 nb, .bool ng, .string nn, .slice sa sl sc, .slice ao nk cap] 25)).heap.size = w.heap.size + 1 := by simp
  have HNP : Hid (w.heap.size ≠ pb) := by unfold Hid; omega
  have HGx : Hid (some w.heap.size ≠ G') := hne _ _ _ HX2.out (by decide)
  have HGB : Hid (∀ x, G' = some x → B ≤ x) := fun x e => by rcases hG2 x e with e' | e'; exact hG x e'.symm; omega
  have hBB : Below B w0 (w.alloc (.cells #[.int .i64 8, .int .i64 2, .int .i64 na, .int .i64 nb, .bool ng, .string nn, .slice sa sl sc, .slice ao nk cap] 25)) := D2.below hBw hB hG
  have HEnd : Hid (∀ w' c, DS (w.alloc (.cells #[.int .i64 8, .int .i64 2, .int .i64 na, .int .i64 nb, .bool ng, .string nn, .slice sa sl sc, .slice ao nk cap] 25)) w' pb G' h c → DS w0 w' pb G h c) := fun w' c e => D2.then hG2 e
  have HK2 : Hid (KV B (w.alloc (.cells #[.int .i64 8, .int .i64 2, .int .i64 na, .int .i64 nb, .bool ng, .string nn, .slice sa sl sc, .slice ao nk cap] 25)) ao ks) := hkv.below hBB
  obtain ⟨w2, hw2⟩ : ∃ w2, w.alloc (.cells #[.int .i64 8, .int .i64 2, .int .i64 na, .int .i64 nb, .bool ng, .string nn, .slice sa sl sc, .slice ao nk cap] 25) = w2 := ⟨_, rfl⟩
  have HW2 : Hid (w.alloc (.cells #[.int .i64 8, .int .i64 2, .int .i64 na, .int .i64 nb, .bool ng, .string nn, .slice sa sl sc, .slice ao nk cap] 25) = w2) := hw2
  rw [hw2] at HX2 hz HEnd E2 HK2
  have HBX : Hid (∀ w' c, DS w2 w' pb G' h c → Bk w' w.heap.size #[.int .i64 8, .int .i64 2, .int .i64 na, .int .i64 nb, .bool ng, .string nn, .slice sa sl sc, .slice ao nk cap] 25) := fun w' c e => e.bk HX2.out HNP.out HGx.out
  have HBW : Hid (∀ w' c, DS w2 w' pb G' h c → Below B w2 w') := fun w' c e => e.below (by omega) hB HGB.out
  have CF := full_d pb a G' h w2 w2 E2
  rw [decide_eq_false (by omega)] at CF
  have hbx : Bk (w2.setCell ⟨w.heap.size, 1, none⟩ (.int .i64 0)) w.heap.size #[.int .i64 8, .int .i64 0, .int .i64 na, .int .i64 nb, .bool ng, .string nn, .slice sa sl sc, .slice ao nk cap] 25 := by have := HX2.out.set 1 (.int .i64 0); simpa using this
  have D2w : DS w0 w2 pb G h a := hw2 ▸ D2
  have D5 := D2w.apart HX2.out (by omega) (by decide) (by decide) 1 (.int .i64 0)
  have hbel : Below B w0 (w2.setCell ⟨w.heap.size, 1, none⟩ (.int .i64 0)) := D5.below hBw hB hG
  obtain ⟨G5, E5, hG5, _⟩ := D5.again
  have hG5B : ∀ x, G5 = some x → B ≤ x := fun x e => by
    rcases hG5 x e with e' | e'
    · exact hG x e'.symm
    · omega
  have hz5 : (w2.setCell ⟨w.heap.size, 1, none⟩ (.int .i64 0)).heap.size = w2.heap.size := by simp [World.setCell]
  have CG := block_d h M t HD hM hM2 E5 9 0 0 0 0 none 0 0 [] (qo_nil _) _ (hvt _ hbel) hB (by omega) hG5B hb (.inr rfl)
  have HEnd5 : Hid (∀ w' c, DS (w2.setCell ⟨w.heap.size, 1, none⟩ (.int .i64 0)) w' pb G5 h c → DS w0 w' pb G h c) := fun w' c k => D5.then hG5 k
  have x0 := HX2.out.cell 0 (u := .int .i64 8) rfl; have x1 := HX2.out.cell 1 (u := .int .i64 2) rfl; have x2 := HX2.out.cell 2 (u := .int .i64 na) rfl; have x3 := HX2.out.cell 3 (u := .int .i64 nb) rfl; have x4 := HX2.out.cell 4 (u := .bool ng) rfl; have x5 := HX2.out.cell 5 (u := .string nn) rfl; have x6 := HX2.out.cell 6 (u := .slice sa sl sc) rfl; have x7 := HX2.out.cell 7 (u := .slice ao nk cap) rfl
  have f1 := HX2.out.frozen 1
  have y0 := hbx.cell 0 (u := .int .i64 8) rfl; have y1 := hbx.cell 1 (u := .int .i64 0) rfl; have y2 := hbx.cell 2 (u := .int .i64 na) rfl; have y3 := hbx.cell 3 (u := .int .i64 nb) rfl; have y4 := hbx.cell 4 (u := .bool ng) rfl; have y5 := hbx.cell 5 (u := .string nn) rfl; have y6 := hbx.cell 6 (u := .slice sa sl sc) rfl; have y7 := hbx.cell 7 (u := .slice ao nk cap) rfl
  clear HD hvt hbx D5 D2w hbel E5 hG5 hG5B hz5
  clear W2 D2 E2 hG2 hne hp hs0 hkv hBB HK2 HGB hw2 HBW
  go_enter Tryz.func23, Tryz.ntmps23
  go_upto_region 1 with fail
  rw [HW2.out]
  go_wp2_with (first
    | (go_at_call 24; refine CF.mono ?_; clear CF; rintro e w3 ⟨rfl, hw3⟩; obtain rfl := hw3.symm; clear hw3)
    | (go_at_call 64; refine CG.mono ?_; clear CG; rintro e w4 ⟨rfl, c, k4, hnx⟩; have HD4 : Hid (DS w0 w4 pb G h c) := HEnd5.out _ _ k4; have HNX : Hid (Nx a c (blockP [] (ins [] 9 0 0) (pcN t)) (M + 2)) := hnx; clear k4 hnx))
  refine bodyPost_ret (results_none rfl _ _ _) rfl ?_
  exact ⟨rfl, c, HD4.out, HNX.out⟩
set_option maxRecDepth 10000 in
set_option maxHeartbeats 4000000 in
theorem node_10a (h : Hd) {w0 w : World} {pb B : Nat} {a : Pc (List R)} {G : Option Nat} (hp : DS w0 w pb G h a) (m na nb : Int) (ng : Bool) (nn : ByteArray) (sa : Option Addr) (sl sc : Nat) (ao : Option Addr) (nk cap : Nat) (ks : List Nd) (hkv : KV B w0 ao ks) (hB : B ≤ pb) (hBw : B ≤ w0.heap.size) (hG : ∀ x, G = some x → B ≤ x) (M : Nat) (t : Nd) (HD : Doc h M t) (hM : 5001 ≤ M) (hM2 : M ≤ 15000) (hks : ks = [t]) (hnk : nk = 1) (hcap : nk ≤ cap) (hts : t.sz ≤ 100000000) (hm1 : m < 2) (hb : a.1.length ≤ 5000) :
    Calls Tryz.prog 23 #[.pointer (some ⟨pb, 0, none⟩), .agg #[.int .i64 10, .int .i64 m, .int .i64 na, .int .i64 nb, .bool ng, .string nn, .slice sa sl sc, .slice ao nk cap]] w fun e w' => e = .returned (.tuple #[]) ∧ ∃ c, DS w0 w' pb G h c ∧ Nx a c (blockP [] ⟨8, m, 0, 0, 0, []⟩ (pcN t)) (M + 2) := by
  have W2 : Below w.heap.size w (w.alloc (.cells #[.int .i64 10, .int .i64 m, .int .i64 na, .int .i64 nb, .bool ng, .string nn, .slice sa sl sc, .slice ao nk cap] 25)) := (Below.refl _ w).alloc (Nat.le_refl _) _
  have D2 := hp.on W2
  obtain ⟨G', E2, hG2, hne⟩ := D2.again
  have hs0 := hp.kq.size
  have hpb := hp.lt
  have HX2 : Hid (Bk (w.alloc (.cells #[.int .i64 10, .int .i64 m, .int .i64 na, .int .i64 nb, .bool ng, .string nn, .slice sa sl sc, .slice ao nk cap] 25)) w.heap.size #[.int .i64 10, .int .i64 m, .int .i64 na, .int .i64 nb, .bool ng, .string nn, .slice sa sl sc, .slice ao nk cap] 25) := Bk.new w _ _
  have hz : (w.alloc (.cells #[.int .i64 10, .int .i64 m, .int .i64 na, .int .i64 nb, .bool ng, .string nn, .slice sa sl sc, .slice ao nk cap] 25)).heap.size = w.heap.size + 1 := by simp
  have HNP : Hid (w.heap.size ≠ pb) := by unfold Hid; omega
  have HGx : Hid (some w.heap.size ≠ G') := hne _ _ _ HX2.out (by decide)
  have HGB : Hid (∀ x, G' = some x → B ≤ x) := fun x e => by rcases hG2 x e with e' | e'; exact hG x e'.symm; omega
  have hBB : Below B w0 (w.alloc (.cells #[.int .i64 10, .int .i64 m, .int .i64 na, .int .i64 nb, .bool ng, .string nn, .slice sa sl sc, .slice ao nk cap] 25)) := D2.below hBw hB hG
  have HEnd : Hid (∀ w' c, DS (w.alloc (.cells #[.int .i64 10, .int .i64 m, .int .i64 na, .int .i64 nb, .bool ng, .string nn, .slice sa sl sc, .slice ao nk cap] 25)) w' pb G' h c → DS w0 w' pb G h c) := fun w' c e => D2.then hG2 e
  have HK2 : Hid (KV B (w.alloc (.cells #[.int .i64 10, .int .i64 m, .int .i64 na, .int .i64 nb, .bool ng, .string nn, .slice sa sl sc, .slice ao nk cap] 25)) ao ks) := hkv.below hBB
  obtain ⟨w2, hw2⟩ : ∃ w2, w.alloc (.cells #[.int .i64 10, .int .i64 m, .int .i64 na, .int .i64 nb, .bool ng, .string nn, .slice sa sl sc, .slice ao nk cap] 25) = w2 := ⟨_, rfl⟩
  have HW2 : Hid (w.alloc (.cells #[.int .i64 10, .int .i64 m, .int .i64 na, .int .i64 nb, .bool ng, .string nn, .slice sa sl sc, .slice ao nk cap] 25) = w2) := hw2
  rw [hw2] at HX2 hz HEnd E2 HK2
  have HBX : Hid (∀ w' c, DS w2 w' pb G' h c → Bk w' w.heap.size #[.int .i64 10, .int .i64 m, .int .i64 na, .int .i64 nb, .bool ng, .string nn, .slice sa sl sc, .slice ao nk cap] 25) := fun w' c e => e.bk HX2.out HNP.out HGx.out
  have HBW : Hid (∀ w' c, DS w2 w' pb G' h c → Below B w2 w') := fun w' c e => e.below (by omega) hB HGB.out
  subst hks hnk
  have CF := full_d pb a G' h w2 w2 E2
  rw [decide_eq_false (by omega)] at CF
  obtain ⟨kb, ko, c0, c1, c2, c3, c4, c5, c6, c7, rfl, hkn, HKC⟩ := kid_at HK2.out
  have W3 : Below w2.heap.size w2 (w2.alloc (.cells #[.int .i64 8, .int .i64 m, .int .i64 0, .int .i64 0, .int .i64 0, .slice none 0 0] 66)) := (Below.refl _ _).alloc (Nat.le_refl _) _
  have D3 := E2.on W3
  have HIB : Hid (Bk (w2.alloc (.cells #[.int .i64 8, .int .i64 m, .int .i64 0, .int .i64 0, .int .i64 0, .slice none 0 0] 66)) w2.heap.size #[.int .i64 8, .int .i64 m, .int .i64 0, .int .i64 0, .int .i64 0, .slice none 0 0] 66) := Bk.new w2 _ _
  have hz3 : (w2.alloc (.cells #[.int .i64 8, .int .i64 m, .int .i64 0, .int .i64 0, .int .i64 0, .slice none 0 0] 66)).heap.size = w2.heap.size + 1 := by simp
  obtain ⟨w3, hw3⟩ : ∃ w3, w2.alloc (.cells #[.int .i64 8, .int .i64 m, .int .i64 0, .int .i64 0, .int .i64 0, .slice none 0 0] 66) = w3 := ⟨_, rfl⟩
  have HW3 : Hid (w2.alloc (.cells #[.int .i64 8, .int .i64 m, .int .i64 0, .int .i64 0, .int .i64 0, .slice none 0 0] 66) = w3) := hw3
  rw [hw3] at W3 D3 HIB hz3
  rw [hz] at HIB
  have x0 := HX2.out.cell 0 (u := .int .i64 10) rfl; have x1 := HX2.out.cell 1 (u := .int .i64 m) rfl; have x2 := HX2.out.cell 2 (u := .int .i64 na) rfl; have x3 := HX2.out.cell 3 (u := .int .i64 nb) rfl; have x4 := HX2.out.cell 4 (u := .bool ng) rfl; have x5 := HX2.out.cell 5 (u := .string nn) rfl; have x6 := HX2.out.cell 6 (u := .slice sa sl sc) rfl; have x7 := HX2.out.cell 7 (u := .slice (some ⟨kb, ko, none⟩) 1 cap) rfl
  obtain ⟨z0, z1, z2, z3, z4, z5, z6, z7⟩ := HKC w3 (below_less W3 (by omega))
  have HX3 := HX2.out.on W3
  have u0 := HX3.cell 0 (u := .int .i64 10) rfl; have u1 := HX3.cell 1 (u := .int .i64 m) rfl; have u2 := HX3.cell 2 (u := .int .i64 na) rfl; have u3 := HX3.cell 3 (u := .int .i64 nb) rfl; have u4 := HX3.cell 4 (u := .bool ng) rfl; have u5 := HX3.cell 5 (u := .string nn) rfl; have u6 := HX3.cell 6 (u := .slice sa sl sc) rfl; have u7 := HX3.cell 7 (u := .slice (some ⟨kb, ko, none⟩) 1 cap) rfl
  obtain ⟨G3, E3, hG3, hne3⟩ := D3.again
  have HB3 : Hid (some w.heap.size ≠ G3) := hne3 _ _ _ HX3 (by decide)
  have hG3B : ∀ x, G3 = some x → B ≤ x := fun x e => by
    rcases hG3 x e with e' | e'
    · exact HGB.out x e'.symm
    · omega
  have hkn3 : NV B w3 t (.agg #[c0, c1, c2, c3, c4, c5, c6, c7]) := hkn.keep (below_less W3 (by omega))
  have CG := block_d h M t HD hM hM2 E3.drew 8 m 0 0 0 none 0 0 [] (qo_nil _) _ hkn3 hB (by omega) hG3B hb (.inl rfl)
  have HEnd3 : Hid (∀ w' c, DS w3 w' pb G3 h c → DS w0 w' pb G h c) := fun w' c k => HEnd.out _ _ (D3.then hG3 k)
  have j0 := HIB.out.cell 0 (u := .int .i64 8) rfl; have j1 := HIB.out.cell 1 (u := .int .i64 m) rfl; have j2 := HIB.out.cell 2 (u := .int .i64 0) rfl; have j3 := HIB.out.cell 3 (u := .int .i64 0) rfl; have j4 := HIB.out.cell 4 (u := .int .i64 0) rfl; have j5 := HIB.out.cell 5 (u := .slice none 0 0) rfl
  have HSB : Hid (∀ w' c, DS w3 w' pb G3 h c → w'.cell? ⟨w.heap.size, 7, none⟩ = some (.slice (some ⟨kb, ko, none⟩) 1 cap) ∧ w'.cell? ⟨kb, ko, none⟩ = some c0 ∧ w'.cell? ⟨kb, ko + 1, none⟩ = some c1 ∧ w'.cell? ⟨kb, ko + 2, none⟩ = some c2 ∧ w'.cell? ⟨kb, ko + 3, none⟩ = some c3 ∧ w'.cell? ⟨kb, ko + 4, none⟩ = some c4 ∧ w'.cell? ⟨kb, ko + 5, none⟩ = some c5 ∧ w'.cell? ⟨kb, ko + 6, none⟩ = some c6 ∧ w'.cell? ⟨kb, ko + 7, none⟩ = some c7) := fun w' c k => ⟨(k.bk HX3 HNP.out HB3.out).cell 7 rfl, HKC w' ((below_less W3 (by omega)).trans (k.below (by omega) hB hG3B))⟩
  clear HD HKC hkn hkn3 W3 D3 E3 hG3 hne3 hG3B hw3 HX3 HB3 hz3
  clear W2 D2 E2 hG2 hne hp hs0 hkv hBB HK2 HGB hw2 HBW
  go_enter Tryz.func23, Tryz.ntmps23
  go_upto_region 1 with fail
  rw [HW2.out]
  have hm2 : ¬ 2 ≤ m := by omega
  go_upto_region 22 with (go_at_call 24; refine CF.mono ?_; clear CF; rintro e w3 ⟨rfl, hw3⟩; obtain rfl := hw3.symm; clear hw3)
  rw [HW3.out]
  go_upto_region 24 with fail
  refine wp_region_noPanic ?_
  refine wp_region_held_drew (S := (fun w' => w'.cell? ⟨w.heap.size, 7, none⟩ = some (.slice (some ⟨kb, ko, none⟩) 1 cap) ∧ w'.cell? ⟨kb, ko, none⟩ = some c0 ∧ w'.cell? ⟨kb, ko + 1, none⟩ = some c1 ∧ w'.cell? ⟨kb, ko + 2, none⟩ = some c2 ∧ w'.cell? ⟨kb, ko + 3, none⟩ = some c3 ∧ w'.cell? ⟨kb, ko + 4, none⟩ = some c4 ∧ w'.cell? ⟨kb, ko + 5, none⟩ = some c5 ∧ w'.cell? ⟨kb, ko + 6, none⟩ = some c6 ∧ w'.cell? ⟨kb, ko + 7, none⟩ = some c7)) (by kernel_rfl) ?_ (fun hHeld => ?_)
  · exact ⟨u7, z0, z1, z2, z3, z4, z5, z6, z7⟩
  refine wpAnyH_take (i := 0) (v := ?_) rfl (by kernel_rfl) (by kernel_rfl) (by kernel_rfl) (fun _ _ _ h => h) (Or.inl ⟨by rfl, ?_⟩) (by assumption) ?_
  rotate_left
  · (intro w' hSw; (try dsimp only at hSw); go_simp; try with_reducible rfl)
  try simp only [Act.put, List.setIfInBounds_toArray, List.set_cons_zero, List.set_cons_succ, List.getElem_toArray, List.getElem_cons_zero, List.getElem_cons_succ]
  refine wpAnyH_take (i := 2) (v := ?_) rfl (by kernel_rfl) (by kernel_rfl) (by kernel_rfl) (fun _ _ _ h => h) (Or.inl ⟨by rfl, ?_⟩) (by assumption) ?_
  rotate_left
  · (intro w' hSw; (try dsimp only at hSw); go_simp; try with_reducible rfl)
  try simp only [Act.put, List.setIfInBounds_toArray, List.set_cons_zero, List.set_cons_succ, List.getElem_toArray, List.getElem_cons_zero, List.getElem_cons_succ]
  refine wpAnyH_take (i := 3) (v := ?_) rfl (by kernel_rfl) (by kernel_rfl) (by kernel_rfl) (fun _ _ _ h => h) (Or.inl ⟨by rfl, ?_⟩) (by assumption) ?_
  rotate_left
  · (intro w' hSw; (try dsimp only at hSw); go_simp; try with_reducible rfl)
  try simp only [Act.put, List.setIfInBounds_toArray, List.set_cons_zero, List.set_cons_succ, List.getElem_toArray, List.getElem_cons_zero, List.getElem_cons_succ]
  refine wpAnyH_take (i := 4) (v := ?_) rfl (by kernel_rfl) (by kernel_rfl) (by kernel_rfl) (fun _ _ _ h => h) (Or.inl ⟨by rfl, ?_⟩) (by assumption) ?_
  rotate_left
  · (intro w' hSw; (try dsimp only at hSw); go_simp; try with_reducible rfl)
  try simp only [Act.put, List.setIfInBounds_toArray, List.set_cons_zero, List.set_cons_succ, List.getElem_toArray, List.getElem_cons_zero, List.getElem_cons_succ]
  refine wpAnyH_take (i := 5) (v := ?_) rfl (by kernel_rfl) (by kernel_rfl) (by kernel_rfl) (fun _ _ _ h => h) (Or.inl ⟨by rfl, ?_⟩) (by assumption) ?_
  rotate_left
  · (intro w' hSw; (try dsimp only at hSw); go_simp; try with_reducible rfl)
  try simp only [Act.put, List.setIfInBounds_toArray, List.set_cons_zero, List.set_cons_succ, List.getElem_toArray, List.getElem_cons_zero, List.getElem_cons_succ]
  refine wpAnyH_ready (rs := [1]) (by kernel_rfl) (by simp) ?_
  refine AllReadyH.cons rfl (fun K hK => ?_) AllReadyH.nil
  go_simp
  refine hK.out _ _ ?_ (fun hHeld => ?_)
  · exact ⟨u7, z0, z1, z2, z3, z4, z5, z6, z7⟩
  clear hK K
  try simp only [Act.put, List.setIfInBounds_toArray, List.set_cons_zero, List.set_cons_succ, List.getElem_toArray, List.getElem_cons_zero, List.getElem_cons_succ]
  refine wpAnyH_ready (rs := [6]) (by kernel_rfl) (by simp) ?_
  refine AllReadyH.cons rfl (fun K hK => ?_) AllReadyH.nil
  go_simp
  go_at_call 64
  refine CG.mono ?_
  rintro e w6 ⟨rfl, c, k6, hnx⟩
  have HD6 : Hid (DS w0 w6 pb G h c) := HEnd3.out _ _ k6
  have HNX : Hid (Nx a c (blockP [] ⟨8, m, 0, 0, 0, []⟩ (pcN t)) (M + 2)) := hnx
  obtain ⟨v7, y0, y1, y2, y3, y4, y5, y6, y7⟩ := HSB.out w6 c k6
  go_simp
  refine hK.out _ _ ?_ (fun hHeld => ?_)
  · exact ⟨v7, y0, y1, y2, y3, y4, y5, y6, y7⟩
  clear hK K
  try simp only [Act.put, List.setIfInBounds_toArray, List.set_cons_zero, List.set_cons_succ, List.getElem_toArray, List.getElem_cons_zero, List.getElem_cons_succ]
  refine wpAnyH_done (by kernel_rfl) ?_ _
  refine NoPanic.normal ?_
  clear CG k6 hnx hHeld
  go_wp2
  go_end0
  exact ⟨rfl, c, HD6.out, HNX.out⟩
set_option maxRecDepth 10000 in
set_option maxHeartbeats 4000000 in
theorem node_10b (h : Hd) {w0 w : World} {pb B : Nat} {a : Pc (List R)} {G : Option Nat} (hp : DS w0 w pb G h a) (m na nb : Int) (ng : Bool) (nn : ByteArray) (sa : Option Addr) (sl sc : Nat) (ao : Option Addr) (nk cap : Nat) (ks : List Nd) (hkv : KV B w0 ao ks) (hB : B ≤ pb) (hBw : B ≤ w0.heap.size) (hG : ∀ x, G = some x → B ≤ x) (M : Nat) (t : Nd) (HD : Doc h M t) (hM : 5001 ≤ M) (hM2 : M ≤ 15000) (hks : ks = [t]) (hnk : nk = 1) (hcap : nk ≤ cap) (hts : t.sz ≤ 100000000) (hm1 : 2 ≤ m) (hb : a.1.length ≤ 5000) :
    Calls Tryz.prog 23 #[.pointer (some ⟨pb, 0, none⟩), .agg #[.int .i64 10, .int .i64 m, .int .i64 na, .int .i64 nb, .bool ng, .string nn, .slice sa sl sc, .slice ao nk cap]] w fun e w' => e = .returned (.tuple #[]) ∧ ∃ c, DS w0 w' pb G h c ∧ Nx a c (blockP [] ⟨8, m, 0, (ofN t).1, (ofN t).2, []⟩ (pcN t)) (M + 2) := by
  have W2 : Below w.heap.size w (w.alloc (.cells #[.int .i64 10, .int .i64 m, .int .i64 na, .int .i64 nb, .bool ng, .string nn, .slice sa sl sc, .slice ao nk cap] 25)) := (Below.refl _ w).alloc (Nat.le_refl _) _
  have D2 := hp.on W2
  obtain ⟨G', E2, hG2, hne⟩ := D2.again
  have hs0 := hp.kq.size
  have hpb := hp.lt
  have HX2 : Hid (Bk (w.alloc (.cells #[.int .i64 10, .int .i64 m, .int .i64 na, .int .i64 nb, .bool ng, .string nn, .slice sa sl sc, .slice ao nk cap] 25)) w.heap.size #[.int .i64 10, .int .i64 m, .int .i64 na, .int .i64 nb, .bool ng, .string nn, .slice sa sl sc, .slice ao nk cap] 25) := Bk.new w _ _
  have hz : (w.alloc (.cells #[.int .i64 10, .int .i64 m, .int .i64 na, .int .i64 nb, .bool ng, .string nn, .slice sa sl sc, .slice ao nk cap] 25)).heap.size = w.heap.size + 1 := by simp
  have HNP : Hid (w.heap.size ≠ pb) := by unfold Hid; omega
  have HGx : Hid (some w.heap.size ≠ G') := hne _ _ _ HX2.out (by decide)
  have HGB : Hid (∀ x, G' = some x → B ≤ x) := fun x e => by rcases hG2 x e with e' | e'; exact hG x e'.symm; omega
  have hBB : Below B w0 (w.alloc (.cells #[.int .i64 10, .int .i64 m, .int .i64 na, .int .i64 nb, .bool ng, .string nn, .slice sa sl sc, .slice ao nk cap] 25)) := D2.below hBw hB hG
  have HEnd : Hid (∀ w' c, DS (w.alloc (.cells #[.int .i64 10, .int .i64 m, .int .i64 na, .int .i64 nb, .bool ng, .string nn, .slice sa sl sc, .slice ao nk cap] 25)) w' pb G' h c → DS w0 w' pb G h c) := fun w' c e => D2.then hG2 e
  have HK2 : Hid (KV B (w.alloc (.cells #[.int .i64 10, .int .i64 m, .int .i64 na, .int .i64 nb, .bool ng, .string nn, .slice sa sl sc, .slice ao nk cap] 25)) ao ks) := hkv.below hBB
  obtain ⟨w2, hw2⟩ : ∃ w2, w.alloc (.cells #[.int .i64 10, .int .i64 m, .int .i64 na, .int .i64 nb, .bool ng, .string nn, .slice sa sl sc, .slice ao nk cap] 25) = w2 := ⟨_, rfl⟩
  have HW2 : Hid (w.alloc (.cells #[.int .i64 10, .int .i64 m, .int .i64 na, .int .i64 nb, .bool ng, .string nn, .slice sa sl sc, .slice ao nk cap] 25) = w2) := hw2
  rw [hw2] at HX2 hz HEnd E2 HK2
  have HBX : Hid (∀ w' c, DS w2 w' pb G' h c → Bk w' w.heap.size #[.int .i64 10, .int .i64 m, .int .i64 na, .int .i64 nb, .bool ng, .string nn, .slice sa sl sc, .slice ao nk cap] 25) := fun w' c e => e.bk HX2.out HNP.out HGx.out
  have HBW : Hid (∀ w' c, DS w2 w' pb G' h c → Below B w2 w') := fun w' c e => e.below (by omega) hB HGB.out
  subst hks hnk
  have CF := full_d pb a G' h w2 w2 E2
  rw [decide_eq_false (by omega)] at CF
  obtain ⟨kb, ko, c0, c1, c2, c3, c4, c5, c6, c7, rfl, hkn, HKC⟩ := kid_at HK2.out
  have W3 : Below w2.heap.size w2 (w2.alloc (.cells #[.int .i64 8, .int .i64 m, .int .i64 0, .int .i64 0, .int .i64 0, .slice none 0 0] 66)) := (Below.refl _ _).alloc (Nat.le_refl _) _
  have D3 := E2.on W3
  have HIB : Hid (Bk (w2.alloc (.cells #[.int .i64 8, .int .i64 m, .int .i64 0, .int .i64 0, .int .i64 0, .slice none 0 0] 66)) w2.heap.size #[.int .i64 8, .int .i64 m, .int .i64 0, .int .i64 0, .int .i64 0, .slice none 0 0] 66) := Bk.new w2 _ _
  have hz3 : (w2.alloc (.cells #[.int .i64 8, .int .i64 m, .int .i64 0, .int .i64 0, .int .i64 0, .slice none 0 0] 66)).heap.size = w2.heap.size + 1 := by simp
  obtain ⟨w3, hw3⟩ : ∃ w3, w2.alloc (.cells #[.int .i64 8, .int .i64 m, .int .i64 0, .int .i64 0, .int .i64 0, .slice none 0 0] 66) = w3 := ⟨_, rfl⟩
  have HW3 : Hid (w2.alloc (.cells #[.int .i64 8, .int .i64 m, .int .i64 0, .int .i64 0, .int .i64 0, .slice none 0 0] 66) = w3) := hw3
  rw [hw3] at W3 D3 HIB hz3
  rw [hz] at HIB
  have x0 := HX2.out.cell 0 (u := .int .i64 10) rfl; have x1 := HX2.out.cell 1 (u := .int .i64 m) rfl; have x2 := HX2.out.cell 2 (u := .int .i64 na) rfl; have x3 := HX2.out.cell 3 (u := .int .i64 nb) rfl; have x4 := HX2.out.cell 4 (u := .bool ng) rfl; have x5 := HX2.out.cell 5 (u := .string nn) rfl; have x6 := HX2.out.cell 6 (u := .slice sa sl sc) rfl; have x7 := HX2.out.cell 7 (u := .slice (some ⟨kb, ko, none⟩) 1 cap) rfl
  obtain ⟨z0, z1, z2, z3, z4, z5, z6, z7⟩ := HKC w3 (below_less W3 (by omega))
  have HX3 := HX2.out.on W3
  have u0 := HX3.cell 0 (u := .int .i64 10) rfl; have u1 := HX3.cell 1 (u := .int .i64 m) rfl; have u2 := HX3.cell 2 (u := .int .i64 na) rfl; have u3 := HX3.cell 3 (u := .int .i64 nb) rfl; have u4 := HX3.cell 4 (u := .bool ng) rfl; have u5 := HX3.cell 5 (u := .string nn) rfl; have u6 := HX3.cell 6 (u := .slice sa sl sc) rfl; have u7 := HX3.cell 7 (u := .slice (some ⟨kb, ko, none⟩) 1 cap) rfl
  have hv3 : NV B w3 t (.agg #[c0, c1, c2, c3, c4, c5, c6, c7]) := hkn.keep (below_less W3 (by omega))
  have CO := wid.rof_any _ t _ w3 (Nat.le_refl _) hts (hv3.wide (by omega))
  obtain ⟨X1, hX1⟩ : ∃ X1, (ofN t).1 = X1 := ⟨_, rfl⟩
  obtain ⟨X2, hX2⟩ : ∃ X2, (ofN t).2 = X2 := ⟨_, rfl⟩
  rw [hX1, hX2] at CO ⊢
  have j3 := HIB.out.cell 3 (u := .int .i64 0) rfl
  have HE2 : Hid (DS w2 w2 pb G' h a) := E2
  have HX3H : Hid (Bk w3 w.heap.size #[.int .i64 10, .int .i64 m, .int .i64 na, .int .i64 nb, .bool ng, .string nn, .slice sa sl sc, .slice (some ⟨kb, ko, none⟩) 1 cap] 25) := HX3
  have HW23 : Hid (Below w2.heap.size w2 w3) := W3
  have HKN : Hid (NV B w3 t (.agg #[c0, c1, c2, c3, c4, c5, c6, c7])) := hv3
  have HKCH : Hid (∀ w', Below B w2 w' → w'.cell? ⟨kb, ko, none⟩ = some c0 ∧ w'.cell? ⟨kb, ko + 1, none⟩ = some c1 ∧ w'.cell? ⟨kb, ko + 2, none⟩ = some c2 ∧ w'.cell? ⟨kb, ko + 3, none⟩ = some c3 ∧ w'.cell? ⟨kb, ko + 4, none⟩ = some c4 ∧ w'.cell? ⟨kb, ko + 5, none⟩ = some c5 ∧ w'.cell? ⟨kb, ko + 6, none⟩ = some c6 ∧ w'.cell? ⟨kb, ko + 7, none⟩ = some c7) := HKC
  have HDH : Hid (Doc h M t) := HD
  have HGBH : Hid (∀ x, G' = some x → B ≤ x) := HGB.out
  have hm2 : 2 ≤ m := hm1
  have hBw1 : B ≤ w.heap.size := by omega
  clear HD HKC hkn hv3 W3 D3 hw3 HX3 hX1 hX2
  clear W2 D2 E2 hG2 hne hp hs0 hkv hBB HK2 HGB hw2 HBW
  go_enter Tryz.func23, Tryz.ntmps23
  go_upto_region 1 with fail
  rw [HW2.out]
  go_upto_region 22 with (go_at_call 24; refine CF.mono ?_; clear CF; rintro e w3 ⟨rfl, hw3⟩; obtain rfl := hw3.symm; clear hw3)
  rw [HW3.out]
  go_upto_region 24 with (first
    | (go_at_call 66; refine CO.mono ?_; clear CO z0 z1 z2 z3 z4 z5 z6 z7 u0 u1 u2 u3 u4 u5 u6 u7 x0 x1 x2 x3 x4 x5 x6 x7 j3; rintro e w4 ⟨rfl, b4⟩; have HB4 : Hid (Below w3.heap.size w3 w4) := b4; have HI4 : Hid (Bk w4 (w.heap.size + 1) #[.int .i64 8, .int .i64 m, .int .i64 0, .int .i64 0, .int .i64 0, .slice none 0 0] 66) := HIB.out.on b4; clear b4; have q3 := HI4.out.cell 3 (u := .int .i64 0) rfl; have q4 := HI4.out.cell 4 (u := .int .i64 0) rfl; have g3 := HI4.out.frozen 3; have g4 := HI4.out.frozen 4))
  clear q3 q4 g3 g4
  have hI5 : Bk ((w4.setCell ⟨w.heap.size + 1, 3, none⟩ (.int .i64 X1)).setCell ⟨w.heap.size + 1, 4, none⟩ (.int .i64 X2)) (w.heap.size + 1) #[.int .i64 8, .int .i64 m, .int .i64 0, .int .i64 X1, .int .i64 X2, .slice none 0 0] 66 := by
    have := (HI4.out.set 3 (.int .i64 X1)).set 4 (.int .i64 X2); simpa using this
  have hX5 : Bk ((w4.setCell ⟨w.heap.size + 1, 3, none⟩ (.int .i64 X1)).setCell ⟨w.heap.size + 1, 4, none⟩ (.int .i64 X2)) w.heap.size #[.int .i64 10, .int .i64 m, .int .i64 na, .int .i64 nb, .bool ng, .string nn, .slice sa sl sc, .slice (some ⟨kb, ko, none⟩) 1 cap] 25 := ((HX3H.out.on HB4.out).apart (by omega) _).apart (by omega) _
  have hb34 : Below w2.heap.size w2 ((w4.setCell ⟨w.heap.size + 1, 3, none⟩ (.int .i64 X1)).setCell ⟨w.heap.size + 1, 4, none⟩ (.int .i64 X2)) := ((HW23.out.trans (below_less HB4.out (by omega))).setCell (p := ⟨w.heap.size + 1, 3, none⟩) (by simp only; omega) _).setCell (p := ⟨w.heap.size + 1, 4, none⟩) (by simp only; omega) _
  have hk5 : NV B ((w4.setCell ⟨w.heap.size + 1, 3, none⟩ (.int .i64 X1)).setCell ⟨w.heap.size + 1, 4, none⟩ (.int .i64 X2)) t (.agg #[c0, c1, c2, c3, c4, c5, c6, c7]) := HKN.out.keep (((below_less HB4.out (by omega)).setCell (p := ⟨w.heap.size + 1, 3, none⟩) (by simp only; omega) _).setCell (p := ⟨w.heap.size + 1, 4, none⟩) (by simp only; omega) _)
  obtain ⟨w5, hw5⟩ : ∃ w5, (w4.setCell ⟨w.heap.size + 1, 3, none⟩ (.int .i64 X1)).setCell ⟨w.heap.size + 1, 4, none⟩ (.int .i64 X2) = w5 := ⟨_, rfl⟩
  rw [hw5] at hI5 hX5 hb34 hk5
  rw [hw5]
  clear hw5 HI4 HIB
  have D5 := HE2.out.on hb34
  obtain ⟨G5, E5, hG5, hne5⟩ := D5.again
  have HB5 : Hid (some w.heap.size ≠ G5) := hne5 _ _ _ hX5 (by decide)
  have hG5B : ∀ x, G5 = some x → B ≤ x := fun x e => by
    rcases hG5 x e with e' | e'
    · exact HGBH.out x e'.symm
    · omega
  have hs5 := hb34.size
  have CG := block_d h M t HDH.out hM hM2 E5.drew 8 m 0 X1 X2 none 0 0 [] (qo_nil _) _ hk5 hB (by omega) hG5B hb (.inl rfl)
  have HEnd3 : Hid (∀ w' c, DS w5 w' pb G5 h c → DS w0 w' pb G h c) := fun w' c k => HEnd.out _ _ (D5.then hG5 k)
  have HSB : Hid (∀ w' c, DS w5 w' pb G5 h c → w'.cell? ⟨w.heap.size, 7, none⟩ = some (.slice (some ⟨kb, ko, none⟩) 1 cap) ∧ w'.cell? ⟨kb, ko, none⟩ = some c0 ∧ w'.cell? ⟨kb, ko + 1, none⟩ = some c1 ∧ w'.cell? ⟨kb, ko + 2, none⟩ = some c2 ∧ w'.cell? ⟨kb, ko + 3, none⟩ = some c3 ∧ w'.cell? ⟨kb, ko + 4, none⟩ = some c4 ∧ w'.cell? ⟨kb, ko + 5, none⟩ = some c5 ∧ w'.cell? ⟨kb, ko + 6, none⟩ = some c6 ∧ w'.cell? ⟨kb, ko + 7, none⟩ = some c7) := fun w' c k => ⟨(k.bk hX5 HNP.out HB5.out).cell 7 rfl, HKCH.out w' ((below_less hb34 (by omega)).trans (k.below (by omega) hB hG5B))⟩
  obtain ⟨z0, z1, z2, z3, z4, z5, z6, z7⟩ := HKCH.out w5 (below_less hb34 (by omega))
  have u0 := hX5.cell 0 (u := .int .i64 10) rfl; have u1 := hX5.cell 1 (u := .int .i64 m) rfl; have u2 := hX5.cell 2 (u := .int .i64 na) rfl; have u3 := hX5.cell 3 (u := .int .i64 nb) rfl; have u4 := hX5.cell 4 (u := .bool ng) rfl; have u5 := hX5.cell 5 (u := .string nn) rfl; have u6 := hX5.cell 6 (u := .slice sa sl sc) rfl; have u7 := hX5.cell 7 (u := .slice (some ⟨kb, ko, none⟩) 1 cap) rfl
  have j0 := hI5.cell 0 (u := .int .i64 8) rfl; have j1 := hI5.cell 1 (u := .int .i64 m) rfl; have j2 := hI5.cell 2 (u := .int .i64 0) rfl; have j3 := hI5.cell 3 (u := .int .i64 X1) rfl; have j4 := hI5.cell 4 (u := .int .i64 X2) rfl; have j5 := hI5.cell 5 (u := .slice none 0 0) rfl
  clear D5 E5 hG5 hne5 hG5B hs5 hk5 hb34 hX5 hI5 HB5
  refine wp_region_noPanic ?_
  refine wp_region_held_drew (S := (fun w' => w'.cell? ⟨w.heap.size, 7, none⟩ = some (.slice (some ⟨kb, ko, none⟩) 1 cap) ∧ w'.cell? ⟨kb, ko, none⟩ = some c0 ∧ w'.cell? ⟨kb, ko + 1, none⟩ = some c1 ∧ w'.cell? ⟨kb, ko + 2, none⟩ = some c2 ∧ w'.cell? ⟨kb, ko + 3, none⟩ = some c3 ∧ w'.cell? ⟨kb, ko + 4, none⟩ = some c4 ∧ w'.cell? ⟨kb, ko + 5, none⟩ = some c5 ∧ w'.cell? ⟨kb, ko + 6, none⟩ = some c6 ∧ w'.cell? ⟨kb, ko + 7, none⟩ = some c7)) (by kernel_rfl) ?_ (fun hHeld => ?_)
  · exact ⟨u7, z0, z1, z2, z3, z4, z5, z6, z7⟩
  refine wpAnyH_take (i := 0) (v := ?_) rfl (by kernel_rfl) (by kernel_rfl) (by kernel_rfl) (fun _ _ _ h => h) (Or.inl ⟨by rfl, ?_⟩) (by assumption) ?_
  rotate_left
  · (intro w' hSw; (try dsimp only at hSw); go_simp; try with_reducible rfl)
  try simp only [Act.put, List.setIfInBounds_toArray, List.set_cons_zero, List.set_cons_succ, List.getElem_toArray, List.getElem_cons_zero, List.getElem_cons_succ]
  refine wpAnyH_take (i := 2) (v := ?_) rfl (by kernel_rfl) (by kernel_rfl) (by kernel_rfl) (fun _ _ _ h => h) (Or.inl ⟨by rfl, ?_⟩) (by assumption) ?_
  rotate_left
  · (intro w' hSw; (try dsimp only at hSw); go_simp; try with_reducible rfl)
  try simp only [Act.put, List.setIfInBounds_toArray, List.set_cons_zero, List.set_cons_succ, List.getElem_toArray, List.getElem_cons_zero, List.getElem_cons_succ]
  refine wpAnyH_take (i := 3) (v := ?_) rfl (by kernel_rfl) (by kernel_rfl) (by kernel_rfl) (fun _ _ _ h => h) (Or.inl ⟨by rfl, ?_⟩) (by assumption) ?_
  rotate_left
  · (intro w' hSw; (try dsimp only at hSw); go_simp; try with_reducible rfl)
  try simp only [Act.put, List.setIfInBounds_toArray, List.set_cons_zero, List.set_cons_succ, List.getElem_toArray, List.getElem_cons_zero, List.getElem_cons_succ]
  refine wpAnyH_take (i := 4) (v := ?_) rfl (by kernel_rfl) (by kernel_rfl) (by kernel_rfl) (fun _ _ _ h => h) (Or.inl ⟨by rfl, ?_⟩) (by assumption) ?_
  rotate_left
  · (intro w' hSw; (try dsimp only at hSw); go_simp; try with_reducible rfl)
  try simp only [Act.put, List.setIfInBounds_toArray, List.set_cons_zero, List.set_cons_succ, List.getElem_toArray, List.getElem_cons_zero, List.getElem_cons_succ]
  refine wpAnyH_take (i := 5) (v := ?_) rfl (by kernel_rfl) (by kernel_rfl) (by kernel_rfl) (fun _ _ _ h => h) (Or.inl ⟨by rfl, ?_⟩) (by assumption) ?_
  rotate_left
  · (intro w' hSw; (try dsimp only at hSw); go_simp; try with_reducible rfl)
  try simp only [Act.put, List.setIfInBounds_toArray, List.set_cons_zero, List.set_cons_succ, List.getElem_toArray, List.getElem_cons_zero, List.getElem_cons_succ]
  refine wpAnyH_ready (rs := [1]) (by kernel_rfl) (by simp) ?_
  refine AllReadyH.cons rfl (fun K hK => ?_) AllReadyH.nil
  go_simp
  refine hK.out _ _ ?_ (fun hHeld => ?_)
  · exact ⟨u7, z0, z1, z2, z3, z4, z5, z6, z7⟩
  clear hK K
  try simp only [Act.put, List.setIfInBounds_toArray, List.set_cons_zero, List.set_cons_succ, List.getElem_toArray, List.getElem_cons_zero, List.getElem_cons_succ]
  refine wpAnyH_ready (rs := [6]) (by kernel_rfl) (by simp) ?_
  refine AllReadyH.cons rfl (fun K hK => ?_) AllReadyH.nil
  go_simp
  go_at_call 64
  refine CG.mono ?_
  rintro e w6 ⟨rfl, c, k6, hnx⟩
  have HD6 : Hid (DS w0 w6 pb G h c) := HEnd3.out _ _ k6
  have HNX : Hid (Nx a c (blockP [] ⟨8, m, 0, X1, X2, []⟩ (pcN t)) (M + 2)) := hnx
  obtain ⟨v7, y0, y1, y2, y3, y4, y5, y6, y7⟩ := HSB.out w6 c k6
  go_simp
  refine hK.out _ _ ?_ (fun hHeld => ?_)
  · exact ⟨v7, y0, y1, y2, y3, y4, y5, y6, y7⟩
  clear hK K
  try simp only [Act.put, List.setIfInBounds_toArray, List.set_cons_zero, List.set_cons_succ, List.getElem_toArray, List.getElem_cons_zero, List.getElem_cons_succ]
  refine wpAnyH_done (by kernel_rfl) ?_ _
  refine NoPanic.normal ?_
  clear CG k6 hnx hHeld
  go_wp2
  go_end0
  exact ⟨rfl, c, HD6.out, HNX.out⟩
end Go.Proofs.YtjbcapnpknbbaaaGreat.cmp
end

section
/- The document's builder: node, at any tree of sets. -/
set_option linter.unusedVariables false
set_option linter.unusedSimpArgs false
namespace Go.Proofs.YtjbcapnpknbbaaaGreat.cmp
open Go.RowKit nod
open Go.Proofs.YtjbcapnpknbbaaaGreat.rng (R RV info_parts)
open Go.Proofs.YtjbcapnpknbbaaaGreat.wid (ofN)
open Go.Proofs.YtjbcapnpknbbaaaGreat.low (standP kidsP wi plN plL plL_all len_szL setsN setsL sets_mem)

theorem pc_one (k m a b : Int) (g : Bool) (n : ByteArray) (s : List R) (ks : List Nd) : pcN (.mk k m a b g n s ks) = pieceP [] k m a b s (lkW m ks) (if goes k b then ks.map pcN else []) := by
  rw [pcN, pcL_map]
theorem row_one (q : Pc (List R)) : rowP [q] = q := by rw [rowP_cons, rowP_nil, addP_zero]
theorem rep00 (e : List R) (m : Int) (q : Pc (List R)) : cmp.repP e m 0 0 q = ([], 0) := by
  unfold cmp.repP
  rw [if_neg (by decide)]
  simp [mayP, timesP]
theorem pc_rep (m a b : Int) (hm : ¬ m = 2) (h0 : 0 ≤ a) (hb : b = -1 ∨ a ≤ b) (g : Bool) (n : ByteArray) (s : List R) (t : Nd) : pcN (.mk 8 m a b g n s [t]) = cmp.repP [] m a b (pcN t) := by
  rw [pc_one]
  have : pieceP ([] : List R) 8 m a b s (lkW m [t]) (if goes 8 b then [t].map pcN else []) = cmp.repP [] m a b (rowP (if goes 8 b then [t].map pcN else [])) := by
    simp [pieceP, cmp.repAny, hm]
  rw [this]
  by_cases h : b = 0
  · subst h
    obtain rfl : a = 0 := by omega
    rw [rep00, rep00]
  · have : goes 8 b = true := by simp [goes, kidsP, h]
    rw [this, if_pos rfl, List.map_cons, List.map_nil, row_one]
theorem pc_pos (a b : Int) (g : Bool) (n : ByteArray) (s : List R) (t : Nd) : pcN (.mk 8 2 a b g n s [t]) = blockP [] (ins [] 9 0 0) (pcN (.mk 8 0 a b g n s [t])) := by
  rw [pc_one, pc_one]
  simp [pieceP, cmp.repAny]

theorem doc_rep (h : Hd) (m a b : Int) (g : Bool) (n : ByteArray) (s : List R) (t : Nd) (HD : Doc h (5001 + 6 * t.sz) t) (hsz : t.sz ≤ 600) (hm : ¬ m = 2) (h0 : 0 ≤ a) (h1 : a ≤ 100) (hb : b = -1 ∨ (a ≤ b ∧ b ≤ 100)) : Doc h (5001 + 6 * t.sz + 4) (.mk 8 m a b g n s [t]) := by
  intro v B pb A G w0 w hp hv hB hBw hG hl
  obtain ⟨k', m', a', b', g', n', s', ks', sa, sc, ao, cap, e, rfl, _, _, hs, hk1, hk2, hk3, hkv⟩ := hv.open
  cases e
  rw [pc_rep m a b hm h0 (by omega)]
  by_cases hf : 5000 < A.1.length
  · exact node_full h hp 8 m a b g n sa s.length sc ao [t].length cap [t] hkv hB hBw hG hf _ _
  · rcases hb with rfl | ⟨hb1, hb2⟩
    · exact node_8i h hp m a (-1) g n sa s.length sc ao [t].length cap [t] hkv hB hBw hG _ t HD (by omega) (by omega) rfl rfl hk1 h0 h1 hm (by omega)
    · exact node_8f h hp m a b g n sa s.length sc ao [t].length cap [t] hkv hB hBw hG _ t HD (by omega) (by omega) rfl rfl hk1 h0 h1 hm hb1 hb2 (by omega)
theorem one_kid {ks : List Nd} (h : ks.length = 1) : ∃ t, ks = [t] := by
  match ks, h with
  | [t], _ => exact ⟨t, rfl⟩
theorem doc_any (h : Hd) : ∀ (N : Nat) (t : Nd) (d : Int), t.sz ≤ N → t.sz ≤ 600 → plN t d = true → setsN t → Doc h (5001 + 6 * t.sz) t := by
  intro N
  induction N with
  | zero => intro t d hN; obtain ⟨k, m, a, b, g, n, st, ks⟩ := t; rw [Nd.sz] at hN; omega
  | succ N ih =>
    intro t d hN hsz hpl hsets
    obtain ⟨k, m, a, b, g, n, st, ks⟩ := t
    obtain ⟨hst, hk⟩ := plain_kids hpl
    rw [Nd.sz] at hN hsz ⊢
    rw [setsN] at hsets
    have HK : kidsP k = true → ∀ t ∈ ks, Doc h (5001 + 6 * t.sz) t := fun hkp t ht => by
      have := szL_mem ht
      exact ih t (d + 1) (by omega) (by omega) (hk hkp t ht) (sets_mem hsets.2 ht)
    clear ih hk hpl
    intro v B pb A G w0 w hp hv hB hBw hG hl
    obtain ⟨k', m', a', b', g', n', s', ks', sa, sc, ao, cap, e, rfl, hi64, hnm, ⟨hs1, hs2, hs3, hs4, hs5⟩, hk1, hk2, hk3, hkv⟩ := hv.open
    cases e
    by_cases hf : 5000 < A.1.length
    · exact node_full h hp k m a b g n sa st.length sc ao ks.length cap ks hkv hB hBw hG hf _ _
    have hf' : A.1.length ≤ 5000 := by omega
    unfold standP at hst
    by_cases c15 : k = 15
    · subst c15
      have e : pcN (.mk 15 m a b g n st ks) = oneP ⟨1, 0, 0, 0, 0, st⟩ := by rw [pc_one]; simp [pieceP]
      rw [e]
      have X : Calls Tryz.prog 23 #[.pointer (some ⟨pb, 0, none⟩), .agg #[.int .i64 15, .int .i64 m, .int .i64 a, .int .i64 b, .bool g, .string n, .slice sa st.length sc, .slice ao ks.length cap]] w fun e w' => e = .returned (.tuple #[]) ∧ ∃ c, DS w0 w' pb G h c ∧ Nx A c (oneP ⟨1, 0, 0, 0, 0, st⟩) 5001 := by
        cases hsa : sa with
        | none => exact node_15n h hp m a b g n none st.length sc ao ks.length cap ks hkv hB hBw hG st (hsa ▸ hs1) (hsa ▸ hs2) rfl (hsa ▸ hs5) hsets.1 rfl hf'
        | some ad => exact node_15s h hp m a b g n (some ad) st.length sc ao ks.length cap ks hkv hB hBw hG st (hsa ▸ hs1) (hsa ▸ hs2) rfl (hsa ▸ hs5) hsets.1 ad rfl hf'
      exact X.mono fun e w' ⟨he, c, h1, h2⟩ => ⟨he, c, h1, h2.wide (by omega)⟩
    rw [if_neg c15] at hst
    by_cases c6 : k = 6
    · subst c6
      have e : pcN (.mk 6 m a b g n st ks) = rowP (ks.map pcN) := by rw [pc_one]; simp [pieceP, goes, kidsP]
      rw [e]
      exact (node_6 h hp m a b g n sa st.length sc ao ks.length cap ks hkv hB hBw hG (szL ks) (HK rfl) rfl (by omega) rfl hk1 hf').mono fun e w' ⟨he, c, h1, h2⟩ => ⟨he, c, h1, h2.wide (by omega)⟩
    by_cases c14 : k = 14
    · subst c14
      have e : pcN (.mk 14 m a b g n st ks) = oneP (ins [] 6 0 0) := by rw [pc_one]; simp [pieceP]
      rw [e]
      exact (node_14 h hp m a b g n sa st.length sc ao ks.length cap ks hkv hB hBw hG hf').mono fun e w' ⟨he, c, h1, h2⟩ => ⟨he, c, h1, h2.wide (by omega)⟩
    rw [if_neg (by omega)] at hst
    by_cases c7 : k = 7
    · subst c7
      rw [if_pos rfl] at hst
      have e : pcN (.mk 7 m a b g n st ks) = choiceP [] (ks.map pcN) := by rw [pc_one]; simp [pieceP, goes, kidsP]
      rw [e]
      exact (node_7 h hp m a b g n sa st.length sc ao ks.length cap ks hkv hB hBw hG (szL ks) (HK rfl) rfl (by omega) rfl (by simpa using hst) hk1 hf').mono fun e w' ⟨he, c, h1, h2⟩ => ⟨he, c, h1, h2.wide (by omega)⟩
    rw [if_neg c7] at hst
    by_cases c8 : k = 8
    · subst c8
      rw [if_pos rfl] at hst
      simp only [low.repP, Bool.and_eq_true, Bool.or_eq_true, wi_iff, decide_eq_true_eq, beq_iff_eq] at hst
      obtain ⟨t, rfl⟩ := one_kid hst.2
      have hszt : szL [t] = t.sz := by simp [szL]
      have HDt := HK rfl t (List.mem_singleton.2 rfl)
      rw [hszt]
      rw [hszt] at hsz
      by_cases hm : m = 2
      · subst hm
        rw [pc_pos]
        have HR := doc_rep h 0 a b g n st t HDt (by omega) (by omega) (by omega) (by omega) (by omega)
        exact (node_8p h hp 2 a b g n sa st.length sc ao [t].length cap [t] hkv hB hBw hG _ _ HR (by omega) (by omega) (fun W hW => (NV.shut (k := 8) (m := 0) ⟨by unfold I64; omega, by unfold I64; omega, hi64.2.2.1, hi64.2.2.2⟩ hnm ⟨hs1, hs2, hs3, hs4, hs5⟩ ⟨hk1, hk2, hk3⟩ hkv).keep hW) hf').mono fun e w' ⟨he, c, h1, h2⟩ => ⟨he, c, h1, h2.wide (by omega)⟩
      · have HR := doc_rep h m a b g n st t HDt (by omega) hm (by omega) (by omega) (by omega)
        exact (HR _ B pb A G w0 w hp hv hB hBw hG hl).mono fun e w' ⟨he, c, h1, h2⟩ => ⟨he, c, h1, h2.wide (by omega)⟩
    rw [if_neg c8] at hst
    by_cases c9 : k = 9
    · subst c9
      rw [if_pos rfl] at hst
      simp only [Bool.and_eq_true, wi_iff, decide_eq_true_eq] at hst
      obtain ⟨t, rfl⟩ := one_kid hst.2
      have hszt : szL [t] = t.sz := by simp [szL]
      have HDt := HK rfl t (List.mem_singleton.2 rfl)
      rw [hszt]
      rw [hszt] at hsz
      have e : pcN (.mk 9 m a b g n st [t]) = grpP a (pcN t) := by
        rw [pc_one]; unfold grpP
        by_cases h0 : 0 < a
        · simp [pieceP, goes, kidsP, h0, row_one]
        · simp [pieceP, goes, kidsP, h0, row_one]
      rw [e]
      exact (node_9 h hp m a b g n sa st.length sc ao [t].length cap [t] hkv hB hBw hG _ t HDt (by omega) (by omega) rfl rfl hk1 (by omega) (by omega) hf').mono fun e w' ⟨he, c, h1, h2⟩ => ⟨he, c, h1, h2.wide (by omega)⟩
    rw [if_neg c9] at hst
    by_cases c10 : k = 10
    · subst c10
      rw [if_pos rfl] at hst
      simp only [Bool.and_eq_true, wi_iff, decide_eq_true_eq] at hst
      obtain ⟨t, rfl⟩ := one_kid hst.2
      have hszt : szL [t] = t.sz := by simp [szL]
      have HDt := HK rfl t (List.mem_singleton.2 rfl)
      rw [hszt]
      rw [hszt] at hsz
      have e : pcN (.mk 10 m a b g n st [t]) = blockP [] ⟨8, m, 0, (lkW m [t]).1, (lkW m [t]).2, []⟩ (pcN t) := by
        rw [pc_one]; simp [pieceP, goes, kidsP, row_one]
      rw [e]
      by_cases hm : m < 2
      · have hlk : lkW m [t] = (0, 0) := by unfold lkW; rw [if_neg (by omega)]
        rw [hlk]
        exact (node_10a h hp m a b g n sa st.length sc ao [t].length cap [t] hkv hB hBw hG _ t HDt (by omega) (by omega) rfl rfl hk1 (by omega) hm hf').mono fun e w' ⟨he, c, h1, h2⟩ => ⟨he, c, h1, h2.wide (by omega)⟩
      · have hlk : lkW m [t] = ofN t := by unfold lkW; rw [if_pos (by omega)]
        rw [hlk]
        exact (node_10b h hp m a b g n sa st.length sc ao [t].length cap [t] hkv hB hBw hG _ t HDt (by omega) (by omega) rfl rfl hk1 (by omega) (by omega) hf').mono fun e w' ⟨he, c, h1, h2⟩ => ⟨he, c, h1, h2.wide (by omega)⟩
    rw [if_neg c10] at hst
    by_cases c11 : k = 11
    · subst c11
      rw [if_pos rfl] at hst
      simp only [decide_eq_true_eq] at hst
      obtain ⟨t, rfl⟩ := one_kid hst
      have hszt : szL [t] = t.sz := by simp [szL]
      have HDt := HK rfl t (List.mem_singleton.2 rfl)
      rw [hszt]
      rw [hszt] at hsz
      have e : pcN (.mk 11 m a b g n st [t]) = blockP [] (ins [] 9 0 0) (pcN t) := by
        rw [pc_one]; simp [pieceP, goes, kidsP, row_one]
      rw [e]
      exact (node_11 h hp m a b g n sa st.length sc ao [t].length cap [t] hkv hB hBw hG _ t HDt (by omega) (by omega) rfl rfl hk1 hf').mono fun e w' ⟨he, c, h1, h2⟩ => ⟨he, c, h1, h2.wide (by omega)⟩
    rw [if_neg c11] at hst
    by_cases c12 : k = 12
    · subst c12
      have e : pcN (.mk 12 m a b g n st ks) = oneP (ins [] 5 m 0) := by rw [pc_one]; simp [pieceP]
      rw [e]
      exact (node_12 h hp m a b g n sa st.length sc ao ks.length cap ks hkv hB hBw hG hf').mono fun e w' ⟨he, c, h1, h2⟩ => ⟨he, c, h1, h2.wide (by omega)⟩
    rw [if_neg c12] at hst
    by_cases c13 : k = 13
    · subst c13
      have e : pcN (.mk 13 m a b g n st ks) = oneP (ins [] 7 a 0) := by rw [pc_one]; simp [pieceP]
      rw [e]
      exact (node_13 h hp m a b g n sa st.length sc ao ks.length cap ks hkv hB hBw hG hf').mono fun e w' ⟨he, c, h1, h2⟩ => ⟨he, c, h1, h2.wide (by omega)⟩
    rw [if_neg c13] at hst
    cases hst
end Go.Proofs.YtjbcapnpknbbaaaGreat.cmp
end
