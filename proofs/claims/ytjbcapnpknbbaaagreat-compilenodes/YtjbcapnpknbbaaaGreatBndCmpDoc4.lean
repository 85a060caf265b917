/- Texts that the proof leans on, one behind the other. -/
import Derived.Test.YtjbcapnpknbbaaaGreatBndCmpDoc1
import Derived.Test.YtjbcapnpknbbaaaGreatCmpDocP
import Derived.Deep.LoopGhost
import Derived.Deep.CutBlock

section
/- The document's builder: block, group. -/
set_option linter.unusedVariables false
set_option linter.unusedSimpArgs false
namespace Go.Proofs.YtjbcapnpknbbaaaGreat.cmp
open Go.RowKit nod
open Go.Proofs.YtjbcapnpknbbaaaGreat.rng (R RV info_parts)

/-- What node makes of a builder, handed a tree: the tree's program behind its code, or more than there may be. -/
def Doc (h : Hd) (M : Nat) (t : Nd) : Prop := ∀ (v : Value) (B pb : Nat) (a : Pc (List R)) (G : Option Nat) (w0 w : World), DS w0 w pb G h a → NV B w0 t v → B ≤ pb → B ≤ w0.heap.size → (∀ x, G = some x → B ≤ x) → a.1.length ≤ 20000 →
  Calls Tryz.prog 23 #[.pointer (some ⟨pb, 0, none⟩), v] w fun e w' => e = .returned (.tuple #[]) ∧ ∃ c, DS w0 w' pb G h c ∧ Nx a c (pcN t) M
/-- Behind a full builder it is enough to know that it is so. -/
theorem Nx.more {a c c' q q' : Pc (List R)} {m m' : Nat} (h : 5000 < c.1.length ∧ 5000 < a.1.length + q.1.length) (hq : q.1.length ≤ q'.1.length) (h1 : c.1.length ≤ c'.1.length) (h2 : a.1.length ≤ c.1.length) (h3 : c'.1.length ≤ max a.1.length m') : Nx a c' q' m' :=
  ⟨.inr ⟨by omega, by omega⟩, by omega, h3⟩
set_option maxRecDepth 10000 in
set_option maxHeartbeats 4000000 in
theorem block_d (h : Hd) (M : Nat) (t : Nd) (HD : Doc h M t) (hM : 5001 ≤ M) (hM2 : M ≤ 15000) {w0 w : World} {pb B : Nat} {a : Pc (List R)} {G : Option Nat} (hp : DS w0 w pb G h a) (o x y mn mx : Int) (sa : Option Addr) (sl sc : Nat) (l : List R) (hq : QO w (sa, sl, sc) l)
    (v : Value) (hv : NV B w0 t v) (hB : B ≤ pb) (hBw : B ≤ w0.heap.size) (hG : ∀ x, G = some x → B ≤ x) (hb : a.1.length ≤ 5000) (ho : o = 8 ∨ o = 9) :
    Calls Tryz.prog 64 #[.pointer (some ⟨pb, 0, none⟩), .agg #[.int .i64 o, .int .i64 x, .int .i64 y, .int .i64 mn, .int .i64 mx, .slice sa sl sc], v] w fun e w' => e = .returned (.tuple #[]) ∧ ∃ c, DS w0 w' pb G h c ∧ Nx a c (blockP [] ⟨o, x, y, mn, mx, l⟩ (pcN t)) (M + 2) := by
  obtain ⟨k, m, ta, b, g, n, st, ks, ssa, ssc, ao, cap, rfl, rfl, _⟩ := hv.open
  generalize st.length = ssl at *
  generalize ks.length = nk at *
  have W2 : Below w.heap.size w ((w.alloc (.cells #[.int .i64 o, .int .i64 x, .int .i64 y, .int .i64 mn, .int .i64 mx, .slice sa sl sc] 66)).alloc (.cells #[.int .i64 k, .int .i64 m, .int .i64 ta, .int .i64 b, .bool g, .string n, .slice ssa ssl ssc, .slice ao nk cap] 25)) := ((Below.refl _ w).alloc (Nat.le_refl _) _).alloc (by simp) _
  have D2 := hp.on W2
  obtain ⟨G', E2, hG2, hne⟩ := D2.again
  have hs0 := hp.kq.size
  have hpb := hp.lt
  have HX2 : Hid (Bk ((w.alloc (.cells #[.int .i64 o, .int .i64 x, .int .i64 y, .int .i64 mn, .int .i64 mx, .slice sa sl sc] 66)).alloc (.cells #[.int .i64 k, .int .i64 m, .int .i64 ta, .int .i64 b, .bool g, .string n, .slice ssa ssl ssc, .slice ao nk cap] 25)) (w.heap.size + 1) #[.int .i64 k, .int .i64 m, .int .i64 ta, .int .i64 b, .bool g, .string n, .slice ssa ssl ssc, .slice ao nk cap] 25) := bk2
  have HI2 : Hid (Bk ((w.alloc (.cells #[.int .i64 o, .int .i64 x, .int .i64 y, .int .i64 mn, .int .i64 mx, .slice sa sl sc] 66)).alloc (.cells #[.int .i64 k, .int .i64 m, .int .i64 ta, .int .i64 b, .bool g, .string n, .slice ssa ssl ssc, .slice ao nk cap] 25)) w.heap.size #[.int .i64 o, .int .i64 x, .int .i64 y, .int .i64 mn, .int .i64 mx, .slice sa sl sc] 66) := (Bk.new w _ _).past _
  have hz : ((w.alloc (.cells #[.int .i64 o, .int .i64 x, .int .i64 y, .int .i64 mn, .int .i64 mx, .slice sa sl sc] 66)).alloc (.cells #[.int .i64 k, .int .i64 m, .int .i64 ta, .int .i64 b, .bool g, .string n, .slice ssa ssl ssc, .slice ao nk cap] 25)).heap.size = w.heap.size + 1 + 1 := by simp
  have HNP : Hid (w.heap.size + 1 ≠ pb) := by unfold Hid; omega
  have HGx : Hid (some (w.heap.size + 1) ≠ G') := hne _ _ _ HX2.out (by decide)
  have HGB : Hid (∀ x, G' = some x → B ≤ x) := fun x e => by rcases hG2 x e with e' | e'; exact hG x e'.symm; omega
  have HV2 : Hid (NV B ((w.alloc (.cells #[.int .i64 o, .int .i64 x, .int .i64 y, .int .i64 mn, .int .i64 mx, .slice sa sl sc] 66)).alloc (.cells #[.int .i64 k, .int .i64 m, .int .i64 ta, .int .i64 b, .bool g, .string n, .slice ssa ssl ssc, .slice ao nk cap] 25)) (.mk k m ta b g n st ks) (.agg #[.int .i64 k, .int .i64 m, .int .i64 ta, .int .i64 b, .bool g, .string n, .slice ssa ssl ssc, .slice ao nk cap])) := hv.keep (D2.below hBw hB hG)
  have HEnd : Hid (∀ w' c, DS ((w.alloc (.cells #[.int .i64 o, .int .i64 x, .int .i64 y, .int .i64 mn, .int .i64 mx, .slice sa sl sc] 66)).alloc (.cells #[.int .i64 k, .int .i64 m, .int .i64 ta, .int .i64 b, .bool g, .string n, .slice ssa ssl ssc, .slice ao nk cap] 25)) w' pb G' h c → DS w0 w' pb G h c) := fun w' c e => D2.then hG2 e
  have CP := put_d E2 o x y mn mx sa sl sc l (hq.on W2) (by omega)
  obtain ⟨w2, hw2⟩ : ∃ w2, (w.alloc (.cells #[.int .i64 o, .int .i64 x, .int .i64 y, .int .i64 mn, .int .i64 mx, .slice sa sl sc] 66)).alloc (.cells #[.int .i64 k, .int .i64 m, .int .i64 ta, .int .i64 b, .bool g, .string n, .slice ssa ssl ssc, .slice ao nk cap] 25) = w2 := ⟨_, rfl⟩
  have HW2 : Hid ((w.alloc (.cells #[.int .i64 o, .int .i64 x, .int .i64 y, .int .i64 mn, .int .i64 mx, .slice sa sl sc] 66)).alloc (.cells #[.int .i64 k, .int .i64 m, .int .i64 ta, .int .i64 b, .bool g, .string n, .slice ssa ssl ssc, .slice ao nk cap] 25) = w2) := hw2
  rw [hw2] at HX2 HI2 hz HV2 HEnd CP
  obtain ⟨at', hat⟩ : ∃ at', a.1.length = at' := ⟨_, rfl⟩
  have HAT : Hid (a.1.length = at') := hat
  rw [hat] at CP hb
  obtain ⟨a1, ha1⟩ : ∃ a1, putP a [⟨o, x, y, mn, mx, l⟩] = a1 := ⟨_, rfl⟩
  have HA1 : Hid (putP a [⟨o, x, y, mn, mx, l⟩] = a1) := ha1
  have hl1 : a1.1.length = at' + 1 := by rw [← ha1, len_putP, hat]; rfl
  rw [ha1] at CP
  have HN : Hid (∀ w3, DS w2 w3 pb G' h a1 → Calls Tryz.prog 23 #[.pointer (some ⟨pb, 0, none⟩), .agg #[.int .i64 k, .int .i64 m, .int .i64 ta, .int .i64 b, .bool g, .string n, .slice ssa ssl ssc, .slice ao nk cap]] w3 fun e w' => e = .returned (.tuple #[]) ∧ ∃ c, DS w2 w' pb G' h c ∧ Nx a1 c (pcN (.mk k m ta b g n st ks)) M) := fun w3 k3 => HD _ B pb a1 G' w2 w3 k3 HV2.out hB (by omega) HGB.out (by omega)
  have HP2 : Hid (∀ w4 c, DS w2 w4 pb G' h c → c.1.length ≤ 20000 → Calls Tryz.prog 22 #[.pointer (some ⟨pb, 0, none⟩), .agg #[.int .i64 12, .int .i64 0, .int .i64 0, .int .i64 0, .int .i64 0, .slice none 0 0]] w4 fun e w' => e = .returned (.int .i64 c.1.length) ∧ DS w2 w' pb G' h (putP c [ins [] 12 0 0])) := fun w4 c k4 hl => put_d k4 12 0 0 0 0 none 0 0 [] (qo_nil _) (by omega)
  have x0 := HX2.out.cell 0 (u := .int .i64 k) rfl
  have i0 := HI2.out.cell 0 (u := .int .i64 o) rfl
  have i1 := HI2.out.cell 1 (u := .int .i64 x) rfl
  have i2 := HI2.out.cell 2 (u := .int .i64 y) rfl
  have i3 := HI2.out.cell 3 (u := .int .i64 mn) rfl
  have i4 := HI2.out.cell 4 (u := .int .i64 mx) rfl
  have i5 := HI2.out.cell 5 (u := .slice sa sl sc) rfl
  clear x0 ha1 hat hw2 W2 D2 E2 hG2 hne hp hq hv HD hs0 HV2 HGB
  go_enter Tryz.func64, Tryz.ntmps64
  go_upto_region 1 with fail
  rw [HW2.out]
  go_upto_region 2 with (first
    | (go_at_call 22; refine CP.mono ?_; clear CP i0 i1 i2 i3 i4 i5; rintro e w3 ⟨rfl, k3⟩; have HX3 : Hid (Bk w3 (w.heap.size + 1) #[.int .i64 k, .int .i64 m, .int .i64 ta, .int .i64 b, .bool g, .string n, .slice ssa ssl ssc, .slice ao nk cap] 25) := k3.bk HX2.out HNP.out HGx.out; have CN := HN.out w3 k3; clear k3))
  have x0 := HX3.out.cell 0 (u := .int .i64 k) rfl
  have x1 := HX3.out.cell 1 (u := .int .i64 m) rfl
  have x2 := HX3.out.cell 2 (u := .int .i64 ta) rfl
  have x3 := HX3.out.cell 3 (u := .int .i64 b) rfl
  have x4 := HX3.out.cell 4 (u := .bool g) rfl
  have x5 := HX3.out.cell 5 (u := .string n) rfl
  have x6 := HX3.out.cell 6 (u := .slice ssa ssl ssc) rfl
  have x7 := HX3.out.cell 7 (u := .slice ao nk cap) rfl
  go_upto_region 3 with (first
    | (go_at_call 23; refine CN.mono ?_; clear CN x0 x1 x2 x3 x4 x5 x6 x7; rintro e w4 ⟨rfl, c, k4, hnx⟩; have HNX : Hid (Nx a1 c (pcN (.mk k m ta b g n st ks)) M) := hnx; have hcl : c.1.length ≤ 20000 := (by have := hnx.2.2; omega); have CD := HP2.out w4 c k4 hcl; clear k4 hnx))
  go_upto_region 4 with (first
    | (go_at_call 22; refine CD.mono ?_; clear CD; rintro e w5 ⟨rfl, k5⟩))
  have hge : a1.1.length ≤ c.1.length := HNX.out.2.1
  have hlt : at' < (putP c [ins ([] : List R) 12 0 0]).1.length := by rw [len_putP]; omega
  obtain ⟨j, hj⟩ : ∃ j, (putP c [ins ([] : List R) 12 0 0]).1[at']? = some j := ⟨_, List.getElem?_eq_getElem hlt⟩
  obtain ⟨gg, cap5, bk5, hc5, hgp5, cx5, cy5, hf5, _, hY5⟩ := k5.elem at' j hj
  have CH := here_d pb _ G' h w2 w5.drew k5.drew
  have HF5 : Hid (DS w2 (w5.setCell ⟨gg, at' * 6 + 2, none⟩ (.int .i64 (putP c [ins ([] : List R) 12 0 0]).1.length)) pb G' h _) := hY5 _
  have HL3 : Hid ((putP c [ins ([] : List R) 12 0 0]).1.length = c.1.length + 1) := by unfold Hid; rw [len_putP]; rfl
  have HJ : Hid ((putP c [ins ([] : List R) 12 0 0]).1[at']? = some j) := hj
  obtain ⟨c3, hc3⟩ : ∃ c3, putP c [ins ([] : List R) 12 0 0] = c3 := ⟨_, rfl⟩
  have HC3 : Hid (putP c [ins ([] : List R) 12 0 0] = c3) := hc3
  rw [hc3] at bk5 CH HF5 hc5 HL3 HJ hlt
  have p0 := bk5.cell 0 (u := .slice (some ⟨gg, 0, none⟩) c3.1.length cap5) rfl
  have f2 := hf5 (at' * 6 + 2)
  obtain ⟨n3, hn3⟩ : ∃ n3, c3.1.length = n3 := ⟨_, rfl⟩
  have HN3 : Hid (c3.1.length = n3) := hn3
  rw [hn3] at p0 CH HF5 hlt hc5
  have hlt' : (at' : Int) < n3 := by omega
  clear bk5 hY5 hj hc3 hn3 k5 hf5 hge cx5
  go_region_held3 (fun w' => w'.cell? ⟨pb, 0, none⟩ = some (.slice (some ⟨gg, 0, none⟩) n3 cap5)) (go_keep) ((go_at_call 87; refine CH.mono ?_; rintro e w6 ⟨rfl, rfl⟩))
  clear CH
  go_wp2
  go_end0
  refine ⟨rfl, _, HEnd.out _ _ HF5.out.drew, ?_⟩
  have hnx := HNX.out
  have e3 := HN3.out
  have e4 := HL3.out
  have e5 := HAT.out
  rcases hnx.1 with hx | hx
  · refine ⟨.inl ?_, ?_, ?_⟩
    · have hb2 := block_doc ([] : List R) a (pcN (.mk k m ta b g n st ks)) ⟨o, x, y, mn, mx, l⟩ ho c3 (by rw [← HC3.out, hx, ← HA1.out])
      have hjj : j = ⟨o, x, y, mn, mx, l⟩ := by
        have := HJ.out
        rw [← HC3.out, hx, ← HA1.out, ← e5] at this
        simp only [putP, addP, List.append_assoc] at this
        rw [List.getElem?_append_right (Nat.le_refl _), Nat.sub_self] at this
        simpa using this.symm
      rw [hjj, ← hb2, e5, e3]
    · simp only [List.length_set]; omega
    · simp only [List.length_set]; have := hnx.2.2; omega
  · refine ⟨.inr ?_, ?_, ?_⟩
    · simp only [List.length_set, len_blockP]; omega
    · simp only [List.length_set]; omega
    · simp only [List.length_set]; have := hnx.2.2; omega
end Go.Proofs.YtjbcapnpknbbaaaGreat.cmp
end

section
/- The document's builder: a kid; group. -/
set_option linter.unusedVariables false
set_option linter.unusedSimpArgs false
namespace Go.Proofs.YtjbcapnpknbbaaaGreat.cmp
open Go.RowKit nod
open Go.Proofs.YtjbcapnpknbbaaaGreat.rng (R RV info_parts)

/-- The one kid of a node. -/
theorem kid0 {B : Nat} {w : World} {ao : Option Addr} {t : Nd} (hk : KV B w ao [t]) : ∃ kb ko k m a b' g n s kk sa sc ao2 cap2, ao = some ⟨kb, ko, none⟩ ∧ t = .mk k m a b' g n s kk ∧
    (w.cell? ⟨kb, ko, none⟩ = some (.int .i64 k) ∧ w.cell? ⟨kb, ko + 1, none⟩ = some (.int .i64 m) ∧ w.cell? ⟨kb, ko + 2, none⟩ = some (.int .i64 a) ∧ w.cell? ⟨kb, ko + 3, none⟩ = some (.int .i64 b') ∧
      w.cell? ⟨kb, ko + 4, none⟩ = some (.bool g) ∧ w.cell? ⟨kb, ko + 5, none⟩ = some (.string n) ∧ w.cell? ⟨kb, ko + 6, none⟩ = some (.slice sa s.length sc) ∧ w.cell? ⟨kb, ko + 7, none⟩ = some (.slice ao2 kk.length cap2)) ∧
    NV B w t (.agg #[.int .i64 k, .int .i64 m, .int .i64 a, .int .i64 b', .bool g, .string n, .slice sa s.length sc, .slice ao2 kk.length cap2]) := by
  obtain ⟨kb, ko, rfl, hka⟩ := hk.some (by simp)
  obtain ⟨k, m, a, b', g, n, s, kk, sa, sc, ao2, cap2, ht, hc, hv⟩ := hka.kid (i := 0) rfl
  exact ⟨kb, ko, k, m, a, b', g, n, s, kk, sa, sc, ao2, cap2, rfl, ht, by simpa using hc, hv⟩
/-- The kid's value stands at its place in any world where what is old is as it was. -/
def KidAt (w : World) (kb ko : Nat) (v : Value) : Prop := ∃ c0 c1 c2 c3 c4 c5 c6 c7, v = .agg #[c0, c1, c2, c3, c4, c5, c6, c7] ∧ w.cell? ⟨kb, ko, none⟩ = some c0 ∧ w.cell? ⟨kb, ko + 1, none⟩ = some c1 ∧ w.cell? ⟨kb, ko + 2, none⟩ = some c2 ∧ w.cell? ⟨kb, ko + 3, none⟩ = some c3 ∧
  w.cell? ⟨kb, ko + 4, none⟩ = some c4 ∧ w.cell? ⟨kb, ko + 5, none⟩ = some c5 ∧ w.cell? ⟨kb, ko + 6, none⟩ = some c6 ∧ w.cell? ⟨kb, ko + 7, none⟩ = some c7
theorem kid_at {B : Nat} {w : World} {ao : Option Addr} {t : Nd} (hk : KV B w ao [t]) : ∃ kb ko c0 c1 c2 c3 c4 c5 c6 c7, ao = some ⟨kb, ko, none⟩ ∧ NV B w t (.agg #[c0, c1, c2, c3, c4, c5, c6, c7]) ∧ ∀ w', Below B w w' →
    w'.cell? ⟨kb, ko, none⟩ = some c0 ∧ w'.cell? ⟨kb, ko + 1, none⟩ = some c1 ∧ w'.cell? ⟨kb, ko + 2, none⟩ = some c2 ∧ w'.cell? ⟨kb, ko + 3, none⟩ = some c3 ∧
    w'.cell? ⟨kb, ko + 4, none⟩ = some c4 ∧ w'.cell? ⟨kb, ko + 5, none⟩ = some c5 ∧ w'.cell? ⟨kb, ko + 6, none⟩ = some c6 ∧ w'.cell? ⟨kb, ko + 7, none⟩ = some c7 := by
  obtain ⟨kb, ko, rfl, hlt, hx⟩ := hk.some (by simp)
  obtain ⟨v, ⟨c0, c1, c2, c3, c4, c5, c6, c7, rfl, h0, h1, h2, h3, h4, h5, h6, h7⟩, hv⟩ := hx 0 t rfl
  simp only [Nat.zero_mul, Nat.add_zero] at h0 h1 h2 h3 h4 h5 h6 h7
  refine ⟨kb, ko, c0, c1, c2, c3, c4, c5, c6, c7, rfl, hv, fun w' hb => ?_⟩
  have e : ∀ (i : Nat) x, w.cell? ⟨kb, i, none⟩ = some x → w'.cell? ⟨kb, i, none⟩ = some x := fun i x hx => (hb.cell (p := ⟨kb, i, none⟩) hlt).trans hx
  exact ⟨e _ _ h0, e _ _ h1, e _ _ h2, e _ _ h3, e _ _ h4, e _ _ h5, e _ _ h6, e _ _ h7⟩
def grpP (ga : Int) (q : Pc (List R)) : Pc (List R) := if 0 < ga then savedP [] ga q else q
set_option maxRecDepth 10000 in
set_option maxHeartbeats 4000000 in
theorem group_d (h : Hd) (M : Nat) (t : Nd) (HD : Doc h M t) (hM : 5001 ≤ M) (hM2 : M ≤ 15000) {w0 w : World} {pb B : Nat} {a : Pc (List R)} {G : Option Nat} (hp : DS w0 w pb G h a)
    (k m na nb : Int) (ng : Bool) (nn : ByteArray) (sa : Option Addr) (sl sc : Nat) (ao : Option Addr) (nk cap : Nat) (ks : List Nd) (hks : ks = [t]) (hnk : nk = 1) (hcap : nk ≤ cap) (hkv : KV B w0 ao ks) (hB : B ≤ pb) (hBw : B ≤ w0.heap.size) (hG : ∀ x, G = some x → B ≤ x) (hb : a.1.length ≤ 5000) (hg1 : 0 ≤ na) (hg2 : na ≤ 20) :
    Calls Tryz.prog 63 #[.pointer (some ⟨pb, 0, none⟩), .agg #[.int .i64 k, .int .i64 m, .int .i64 na, .int .i64 nb, .bool ng, .string nn, .slice sa sl sc, .slice ao nk cap]] w fun e w' => e = .returned (.tuple #[]) ∧ ∃ c, DS w0 w' pb G h c ∧ Nx a c (grpP na (pcN t)) (M + 2) := by
  have W2 : Below w.heap.size w (w.alloc (.cells #[.int .i64 k, .int .i64 m, .int .i64 na, .int .i64 nb, .bool ng, .string nn, .slice sa sl sc, .slice ao nk cap] 25)) := (Below.refl _ w).alloc (Nat.le_refl _) _
  have D2 := hp.on W2
  obtain ⟨G', E2, hG2, hne⟩ := D2.again
  have hs0 := hp.kq.size
  have hpb := hp.lt
  have HX2 : Hid (Bk (w.alloc (.cells #[.int .i64 k, .int .i64 m, .int .i64 na, .int .i64 nb, .bool ng, .string nn, .slice sa sl sc, .slice ao nk cap] 25)) w.heap.size #[.int .i64 k, .int .i64 m, .int .i64 na, .int .i64 nb, .bool ng, .string nn, .slice sa sl sc, .slice ao nk cap] 25) := Bk.new w _ _
  have hz : (w.alloc (.cells #[.int .i64 k, .int .i64 m, .int .i64 na, .int .i64 nb, .bool ng, .string nn, .slice sa sl sc, .slice ao nk cap] 25)).heap.size = w.heap.size + 1 := by simp
  have HNP : Hid (w.heap.size ≠ pb) := by unfold Hid; omega
  have HGx : Hid (some w.heap.size ≠ G') := hne _ _ _ HX2.out (by decide)
  have HGB : Hid (∀ x, G' = some x → B ≤ x) := fun x e => by rcases hG2 x e with e' | e'; exact hG x e'.symm; omega
  have hBB : Below B w0 (w.alloc (.cells #[.int .i64 k, .int .i64 m, .int .i64 na, .int .i64 nb, .bool ng, .string nn, .slice sa sl sc, .slice ao nk cap] 25)) := D2.below hBw hB hG
  have HEnd : Hid (∀ w' c, DS (w.alloc (.cells #[.int .i64 k, .int .i64 m, .int .i64 na, .int .i64 nb, .bool ng, .string nn, .slice sa sl sc, .slice ao nk cap] 25)) w' pb G' h c → DS w0 w' pb G h c) := fun w' c e => D2.then hG2 e
  have HK2 : Hid (KV B (w.alloc (.cells #[.int .i64 k, .int .i64 m, .int .i64 na, .int .i64 nb, .bool ng, .string nn, .slice sa sl sc, .slice ao nk cap] 25)) ao ks) := hkv.below hBB
  obtain ⟨w2, hw2⟩ : ∃ w2, w.alloc (.cells #[.int .i64 k, .int .i64 m, .int .i64 na, .int .i64 nb, .bool ng, .string nn, .slice sa sl sc, .slice ao nk cap] 25) = w2 := ⟨_, rfl⟩
  have HW2 : Hid (w.alloc (.cells #[.int .i64 k, .int .i64 m, .int .i64 na, .int .i64 nb, .bool ng, .string nn, .slice sa sl sc, .slice ao nk cap] 25) = w2) := hw2
  rw [hw2] at HX2 hz HEnd E2 HK2
  have HBX : Hid (∀ w' c, DS w2 w' pb G' h c → Bk w' w.heap.size #[.int .i64 k, .int .i64 m, .int .i64 na, .int .i64 nb, .bool ng, .string nn, .slice sa sl sc, .slice ao nk cap] 25) := fun w' c e => e.bk HX2.out HNP.out HGx.out
  have HBW : Hid (∀ w' c, DS w2 w' pb G' h c → Below B w2 w') := fun w' c e => e.below (by omega) hB HGB.out
  subst hks hnk
  obtain ⟨kb, ko, c0, c1, c2, c3, c4, c5, c6, c7, rfl, hkn, HKC⟩ := kid_at HK2.out
  have HKD : Hid (∀ w' c, DS w2 w' pb G' h c → w'.cell? ⟨kb, ko, none⟩ = some c0 ∧ w'.cell? ⟨kb, ko + 1, none⟩ = some c1 ∧ w'.cell? ⟨kb, ko + 2, none⟩ = some c2 ∧ w'.cell? ⟨kb, ko + 3, none⟩ = some c3 ∧ w'.cell? ⟨kb, ko + 4, none⟩ = some c4 ∧ w'.cell? ⟨kb, ko + 5, none⟩ = some c5 ∧ w'.cell? ⟨kb, ko + 6, none⟩ = some c6 ∧ w'.cell? ⟨kb, ko + 7, none⟩ = some c7) := fun w' c e => HKC w' (HBW.out w' c e)
  have HN : Hid (∀ w3 a1, DS w2 w3 pb G' h a1 → a1.1.length ≤ 20000 → Calls Tryz.prog 23 #[.pointer (some ⟨pb, 0, none⟩), .agg #[c0, c1, c2, c3, c4, c5, c6, c7]] w3 fun e w' => e = .returned (.tuple #[]) ∧ ∃ c, DS w2 w' pb G' h c ∧ Nx a1 c (pcN t) M) := fun w3 a1 k3 hl => HD _ B pb a1 G' w2 w3 k3 hkn hB (by omega) HGB.out hl
  have HP : Hid (∀ x, ∀ w4 c, DS w2 w4 pb G' h c → c.1.length ≤ 20000 → Calls Tryz.prog 22 #[.pointer (some ⟨pb, 0, none⟩), .agg #[.int .i64 4, .int .i64 x, .int .i64 0, .int .i64 0, .int .i64 0, .slice none 0 0]] w4 fun e w' => e = .returned (.int .i64 c.1.length) ∧ DS w2 w' pb G' h (putP c [ins [] 4 x 0])) := fun x w4 c k4 hl => put_d k4 4 x 0 0 0 none 0 0 [] (qo_nil _) (by omega)
  have HE2 : Hid (DS w2 w2 pb G' h a) := E2
  clear W2 D2 E2 hG2 hne hp HD hs0 hkv hBB hkn HKC HK2 HGB hw2
  by_cases hpos : 0 < na
  case pos =>
    have HGP : Hid (grpP na (pcN t) = savedP [] na (pcN t)) := by unfold Hid grpP; rw [if_pos hpos]
    rw [HGP.out]
    clear HGP
    have CP := HP.out (2 * na) w2 a HE2.out (by omega)
    have hw1 : IntKind.i64.wrap (2 * na) = 2 * na := wrap_near (by omega) (by omega)
    have hw3 : IntKind.i64.wrap (2 * na + 1) = 2 * na + 1 := wrap_near (by omega) (by omega)
    have HB2 := HBX.out w2 a HE2.out
    have x0 := HB2.cell 0 (u := .int .i64 k) rfl; have x1 := HB2.cell 1 (u := .int .i64 m) rfl; have x2 := HB2.cell 2 (u := .int .i64 na) rfl; have x3 := HB2.cell 3 (u := .int .i64 nb) rfl; have x4 := HB2.cell 4 (u := .bool ng) rfl; have x5 := HB2.cell 5 (u := .string nn) rfl; have x6 := HB2.cell 6 (u := .slice sa sl sc) rfl; have x7 := HB2.cell 7 (u := .slice (some ⟨kb, ko, none⟩) 1 cap) rfl
    clear HB2
    obtain ⟨a1, ha1⟩ : ∃ a1, putP a [ins [] 4 (2 * na) 0] = a1 := ⟨_, rfl⟩
    have HA1 : Hid (putP a [ins [] 4 (2 * na) 0] = a1) := ha1
    have hl1 : a1.1.length = a.1.length + 1 := by rw [← ha1, len_putP]; rfl
    rw [ha1] at CP
    clear ha1
    go_enter Tryz.func63, Tryz.ntmps63
    go_upto_region 2 with fail
    rw [HW2.out]
    go_upto_region 3 with (first
      | (go_at_call 22; refine CP.mono ?_; clear CP x0 x1 x2 x3 x4 x5 x6 x7; rintro e w3 ⟨rfl, k3⟩; have CN := HN.out w3 a1 k3 (by omega); have HB3 := HBX.out w3 a1 k3; obtain ⟨z0, z1, z2, z3, z4, z5, z6, z7⟩ := HKD.out w3 a1 k3; have x0 := HB3.cell 0 (u := .int .i64 k) rfl; have x1 := HB3.cell 1 (u := .int .i64 m) rfl; have x2 := HB3.cell 2 (u := .int .i64 na) rfl; have x3 := HB3.cell 3 (u := .int .i64 nb) rfl; have x4 := HB3.cell 4 (u := .bool ng) rfl; have x5 := HB3.cell 5 (u := .string nn) rfl; have x6 := HB3.cell 6 (u := .slice sa sl sc) rfl; have x7 := HB3.cell 7 (u := .slice (some ⟨kb, ko, none⟩) 1 cap) rfl; clear HB3 k3))
    go_upto_region 4 with (first
      | (go_at_call 23; refine CN.mono ?_; clear CN z0 z1 z2 z3 z4 z5 z6 z7 x0 x1 x2 x3 x4 x5 x6 x7; rintro e w4 ⟨rfl, c, k4, hnx⟩; have HNX : Hid (Nx a1 c (pcN t) M) := hnx; have CD := HP.out (2 * na + 1) w4 c k4 (by have := hnx.2.2; omega); have HB4 := HBX.out w4 c k4; have x0 := HB4.cell 0 (u := .int .i64 k) rfl; have x1 := HB4.cell 1 (u := .int .i64 m) rfl; have x2 := HB4.cell 2 (u := .int .i64 na) rfl; have x3 := HB4.cell 3 (u := .int .i64 nb) rfl; have x4 := HB4.cell 4 (u := .bool ng) rfl; have x5 := HB4.cell 5 (u := .string nn) rfl; have x6 := HB4.cell 6 (u := .slice sa sl sc) rfl; have x7 := HB4.cell 7 (u := .slice (some ⟨kb, ko, none⟩) 1 cap) rfl; clear HB4 k4 hnx))
    go_wp2_with (first
      | (go_at_call 22; refine CD.mono ?_; clear CD x0 x1 x2 x3 x4 x5 x6 x7; rintro e w5 ⟨rfl, k5⟩; have K5 : Hid (DS w2 w5 pb G' h (putP c [ins [] 4 (2 * na + 1) 0])) := k5; clear k5))
    go_end0
    refine ⟨rfl, _, HEnd.out _ _ K5.out, ?_⟩
    have hnx := HNX.out
    rcases hnx.1 with hx | hx
    · refine ⟨.inl ?_, ?_, ?_⟩
      · rw [hx, ← HA1.out]; exact saved_doc [] a (pcN t) na
      · rw [len_putP]; have := hnx.2.1; omega
      · rw [len_putP]; simp only [List.length_singleton]; have := hnx.2.2; omega
    · refine ⟨.inr ?_, ?_, ?_⟩
      · rw [len_putP, len_savedP]; omega
      · rw [len_putP]; have := hnx.2.1; omega
      · rw [len_putP]; simp only [List.length_singleton]; have := hnx.2.2; omega
  case neg =>
    have HGP : Hid (grpP na (pcN t) = pcN t) := by unfold Hid grpP; rw [if_neg hpos]
    rw [HGP.out]
    clear HGP
    have hna : na = 0 := by omega
    subst hna
    have CN := HN.out w2 a HE2.out (by omega)
    have HB2 := HBX.out w2 a HE2.out
    obtain ⟨z0, z1, z2, z3, z4, z5, z6, z7⟩ := HKD.out w2 a HE2.out
    have x0 := HB2.cell 0 (u := .int .i64 k) rfl; have x1 := HB2.cell 1 (u := .int .i64 m) rfl; have x2 := HB2.cell 2 (u := .int .i64 0) rfl; have x3 := HB2.cell 3 (u := .int .i64 nb) rfl; have x4 := HB2.cell 4 (u := .bool ng) rfl; have x5 := HB2.cell 5 (u := .string nn) rfl; have x6 := HB2.cell 6 (u := .slice sa sl sc) rfl; have x7 := HB2.cell 7 (u := .slice (some ⟨kb, ko, none⟩) 1 cap) rfl
    clear HB2
    go_enter Tryz.func63, Tryz.ntmps63
    go_upto_region 3 with fail
    rw [HW2.out]
    go_wp2_with (first
      | (go_at_call 23; refine CN.mono ?_; clear CN z0 z1 z2 z3 z4 z5 z6 z7 x0 x1 x2 x3 x4 x5 x6 x7; rintro e w4 ⟨rfl, c, k4, hnx⟩; have HNX : Hid (Nx a c (pcN t) M) := hnx; have HB4 := HBX.out w4 c k4; have x0 := HB4.cell 0 (u := .int .i64 k) rfl; have x1 := HB4.cell 1 (u := .int .i64 m) rfl; have x2 := HB4.cell 2 (u := .int .i64 0) rfl; have x3 := HB4.cell 3 (u := .int .i64 nb) rfl; have x4 := HB4.cell 4 (u := .bool ng) rfl; have x5 := HB4.cell 5 (u := .string nn) rfl; have x6 := HB4.cell 6 (u := .slice sa sl sc) rfl; have x7 := HB4.cell 7 (u := .slice (some ⟨kb, ko, none⟩) 1 cap) rfl; have K4 : Hid (DS w2 w4 pb G' h c) := k4; clear HB4 k4 hnx))
    go_end0
    exact ⟨rfl, _, HEnd.out _ _ K4.out, HNX.out.wide (by omega)⟩
end Go.Proofs.YtjbcapnpknbbaaaGreat.cmp
end

section
/- The document's builder: rows beside it; the alternatives' lists. -/
set_option linter.unusedVariables false
set_option linter.unusedSimpArgs false
namespace Go.Proofs.YtjbcapnpknbbaaaGreat.cmp
open Go.RowKit nod
open Go.Proofs.YtjbcapnpknbbaaaGreat.rng (R RV info_parts)

/-- A row of another type, behind what is done with a builder. -/
theorem DS.own {w0 w : World} {pb : Nat} {G : Option Nat} {h h' : Hd} {a c : Pc (List R)} (k0 : DS w0 w0 pb G h a) (hne : ∀ g cs t, Bk w0 g cs t → t ≠ 66 → some g ≠ G) (k : DS w0 w pb G h' c) {B z n : Nat} {t : TypeId} {v : Value} {xs : List Value} (o : w0.ownsRow B t z v n xs) (h1 : t ≠ 66) (h2 : t ≠ 63) : w.ownsRow B t z v n xs := by
  obtain ⟨_, _, b0, _⟩ := k0.row
  refine ⟨o.1, ?_⟩
  rcases o.2 with hn | ⟨g, cap, cur, rfl, hg, hgg, rest⟩
  · exact .inl hn
  · have bk : Bk w0 g cur t := hgg
    refine .inr ⟨g, cap, cur, rfl, hg, k.bk bk ?_ (hne g cur t bk h1), rest⟩
    rintro rfl
    unfold Bk at bk b0
    rw [b0] at bk; cases bk; exact h2 rfl
/-- A builder, behind a row of another type that has grown. -/
theorem DS.other {w0 w w' : World} {pb : Nat} {G : Option Nat} {h : Hd} {a : Pc (List R)} (k : DS w0 w pb G h a) {B z n : Nat} {t : TypeId} {v : Value} {xs : List Value} (o : w.ownsRow B t z v n xs) (hB : w0.heap.size ≤ B) (hg : w.grownBy w' v.ownBlock) (h1 : t ≠ 66) (h2 : t ≠ 44) (h3 : t ≠ 63) : DS w0 w' pb G h a := by
  obtain ⟨u, p, b, ow, r, hx⟩ := k.row
  have hb : v.ownBlock ≠ some pb := fun e => (own_bk o b h3).elim (fun e' => by rw [e'] at e; cases e) (fun e' => e' e)
  refine ⟨⟨u, p, (hg.block pb b.lt (fun e => hb e.symm)).trans b, ow.kept hg (own_ne ow o (fun e => h1 e.symm)), r.imp fun s l q => World.ownsRow.kept q hg (own_ne q o (fun e => h2 e.symm)), hx⟩, k.kq.grown hg (fun x e hx => ?_), k.lt, k.ms⟩
  have := (o.lt _ e).1
  omega
def natV (J : List Nat) : List Value := J.map fun (j : Nat) => .int .i64 (j : Int)
theorem natV_len (J : List Nat) : (natV J).length = J.length := by simp [natV]
theorem nat_row {w : World} {B : Nat} {v : Value} {J : List Nat} (o : w.ownsRow B 3 1 v J.length (natV J)) {q j : Nat} (hj : J[q]? = some j) : ∃ g cap, v = .slice (some ⟨g, 0, none⟩) J.length cap ∧ J.length ≤ cap ∧ cap ≤ maxLen ∧ w.cell? ⟨g, q, none⟩ = some (.int .i64 (j : Int)) := by
  have hq : q < J.length := (List.getElem?_eq_some_iff.1 hj).1
  have o2 := o
  rcases o.2 with ⟨_, h0⟩ | ⟨g, cap, cur, rfl, hg, hgg, h1, h2, _⟩
  · omega
  · refine ⟨g, cap, rfl, h1, h2, ?_⟩
    have := o2.cellAt q (by omega)
    rw [this, natV, List.getElem?_map, hj]; rfl

theorem set_step (c q : Pc (List R)) (x x' z : Is (List R)) : (((putP (addP (putP c [x]) q) [z]).1.set c.1.length x', (putP (addP (putP c [x]) q) [z]).2) : Pc (List R)) = putP (addP (putP c [x']) q) [z] := by
  have : (putP (addP (putP c [x]) q) [z]).1 = c.1 ++ x :: (q.1.map (mv ((c.1.length + 1 : Nat) : Int) c.2) ++ [z]) := by simp [putP, addP, List.append_assoc]
  rw [this, set_end]
  simp [putP, addP, List.append_assoc]
theorem get_step (c q : Pc (List R)) (x : Is (List R)) (z : List (Is (List R))) : (putP (addP (putP c [x]) q) z).1[c.1.length]? = some x := by
  have : (putP (addP (putP c [x]) q) z).1 = c.1 ++ x :: (q.1.map (mv ((c.1.length + 1 : Nat) : Int) c.2) ++ z) := by simp [putP, addP, List.append_assoc]
  rw [this, List.getElem?_append_right (Nat.le_refl _), Nat.sub_self]; rfl
theorem len_altS (r : Pc (List R) × List Nat) (k : Pc (List R)) : (altS [] r k).1.1.length = r.1.1.length + k.1.length + 2 := by
  simp only [altS, len_putP, len_addP, List.length_singleton]; omega
theorem len_altF (a : Pc (List R)) : ∀ (l : List (Pc (List R))) (r : Pc (List R) × List Nat), (l.foldl (altS []) r).1.1.length = r.1.1.length + lensP l + 2 * l.length
  | [], r => by simp [lensP]
  | x :: l, r => by rw [List.foldl_cons, len_altF a l, len_altS]; simp [lensP]; omega
theorem lens_app (l m : List (Pc (List R))) : lensP (l ++ m) = lensP l + lensP m := by simp [lensP]
/-- How far the alternatives are laid: the code c, and the places J of the jumps that are told their end later; or more than there may be. -/
structure AltD (a : Pc (List R)) (Q : List (Pc (List R))) (j : Nat) (m : Nat) (c : Pc (List R)) (J : List Nat) : Prop where
  st : (c, J) = (Q.take j).foldl (altS []) (a, []) ∨ (5000 < c.1.length ∧ 5000 < a.1.length + (choiceP [] Q).1.length)
  val : ∀ x ∈ J, x < c.1.length
  ge : a.1.length ≤ c.1.length
  le : c.1.length ≤ m
  cnt : J.length = j
theorem len_choice (e : List R) (Q : List (Pc (List R))) : (choiceP e Q).1.length = lensP Q + 2 * (Q.length - 1) := by
  unfold choiceP; rw [len_chGo]; simp
theorem alt_zero (a : Pc (List R)) (Q : List (Pc (List R))) (m : Nat) (h : a.1.length ≤ m) : AltD a Q 0 m a [] :=
  ⟨.inl rfl, fun x hx => by simp at hx, Nat.le_refl _, h, rfl⟩
theorem alt_step {a c c2 : Pc (List R)} {Q : List (Pc (List R))} {j m M : Nat} {J : List Nat} {q : Pc (List R)} (h : AltD a Q j m c J) (hq : Q[j]? = some q) (hj : j + 1 < Q.length) (hn : Nx (putP c [ins [] 2 ((c.1.length : Int) + 1) 0]) c2 q M) (i : Is (List R)) (hi : (putP c2 [ins [] 3 0 0]).1[c.1.length]? = some i) (m' : Nat) (hm : m + 2 ≤ m') (hM : M + 1 ≤ m') :
    AltD a Q (j + 1) m' ((putP c2 [ins [] 3 0 0]).1.set c.1.length ⟨i.op, i.x, ((putP c2 [ins [] 3 0 0]).1.length : Int), i.mn, i.mx, i.set⟩, (putP c2 [ins [] 3 0 0]).2) (J ++ [c2.1.length]) := by
  obtain ⟨st, val, ge, le, cnt⟩ := h
  have h2 := hn.2.1
  have h3 := hn.2.2
  rw [len_putP, List.length_singleton] at h2 h3
  refine ⟨?_, fun x hx => ?_, ?_, ?_, by simp [cnt]⟩
  · have hlq : lensP (Q.take j) + q.1.length + 2 * j + 2 ≤ (choiceP [] Q).1.length := by
      rw [len_choice]
      have e1 := lens_app (Q.take (j + 1)) (Q.drop (j + 1))
      rw [List.take_append_drop, takeX hq, lens_app] at e1
      have e2 : lensP [q] = q.1.length := by simp [lensP]
      omega
    rcases st with st | st
    · have hcl : c.1.length = a.1.length + lensP (Q.take j) + 2 * j := by
        have e1 := len_altF a (Q.take j) (a, [])
        rw [← st] at e1
        have e2 : (Q.take j).length = j := by rw [List.length_take]; omega
        rw [e2] at e1
        exact e1
      rcases hn.1 with hx | hx
      · refine .inl ?_
        have hii : i = ins [] 2 ((c.1.length : Int) + 1) 0 := by
          rw [hx, get_step] at hi; exact (Option.some.inj hi).symm
        rw [takeX hq, List.foldl_append, ← st, hii]
        simp only [List.foldl_cons, List.foldl_nil, altS]
        rw [hx, set_step]
        have e : ((putP (addP (putP c [ins ([] : List R) 2 ((c.1.length : Int) + 1) 0]) q) [ins [] 3 0 0]).1.length : Int) = (c.1.length : Int) + q.1.length + 2 := by
          simp only [len_putP, len_addP, List.length_singleton]; omega
        rw [e]
        simp only [len_putP, len_addP, List.length_singleton]
        rfl
      · refine .inr ?_
        rw [len_putP, List.length_singleton] at hx
        simp only [List.length_set, len_putP, List.length_singleton]
        omega
    · refine .inr ?_
      simp only [List.length_set, len_putP, List.length_singleton]
      omega
  · simp only [List.length_set, len_putP, List.length_singleton]
    simp only [List.mem_append, List.mem_singleton] at hx
    rcases hx with hx | hx
    · have := val x hx; omega
    · omega
  · simp only [List.length_set, len_putP, List.length_singleton]; omega
  · simp only [List.length_set, len_putP, List.length_singleton]; omega
theorem alt_last {a c c2 : Pc (List R)} {Q : List (Pc (List R))} {j m M : Nat} {J : List Nat} {q : Pc (List R)} (h : AltD a Q j m c J) (hq : Q[j]? = some q) (hj : j + 1 = Q.length) (hn : Nx c c2 q M) (m' : Nat) (hm : m ≤ m') (hM : M ≤ m') :
    (∀ x ∈ J, x < c2.1.length) ∧ Nx a (turnP (jumpI c2.1.length) J c2) (choiceP [] Q) m' ∧ c2.1.length ≤ m' := by
  obtain ⟨st, val, ge, le, cnt⟩ := h
  have h2 := hn.2.1
  have h3 := hn.2.2
  have hQ : Q = Q.take j ++ [q] := by rw [← takeX hq, hj, List.take_length]
  have hlc : lensP (Q.take j) + q.1.length + 2 * j = (choiceP [] Q).1.length := by
    rw [len_choice]
    have e1 : lensP Q = lensP (Q.take j) + q.1.length := by
      conv => lhs; rw [hQ]
      rw [lens_app]; simp [lensP]
    omega
  have e2 : (Q.take j).length = j := by rw [List.length_take]; omega
  refine ⟨fun x hx => by have := val x hx; omega, ⟨?_, by rw [turnP_len]; omega, by rw [turnP_len]; omega⟩, by omega⟩
  rcases st with st | st
  · have hcl : c.1.length = a.1.length + lensP (Q.take j) + 2 * j := by
      have e1 := len_altF a (Q.take j) (a, [])
      rw [← st] at e1
      rw [e2] at e1
      exact e1
    rcases hn.1 with hx | hx
    · refine .inl ?_
      have hall := alt_doc ([] : List R) (2 * ((Q.length : Int) - 1) + lensP Q) a (Q.take j)
      rw [← st] at hall
      have ho : (c2.1.length : Int) = 2 * ((Q.length : Int) - 1) + lensP Q + a.1.length := by
        rw [hx, len_addP]
        have e1 : lensP Q = lensP (Q.take j) + q.1.length := by
          conv => lhs; rw [hQ]
          rw [lens_app]; simp [lensP]
        omega
      rw [ho, hx, turnP_add _ _ _ _ val, hall.2, addP_assoc]
      congr 1
      unfold choiceP
      conv => rhs; rw [show chGo ([] : List R) (2 * ((Q.length : Int) - 1) + lensP Q) Q ([], 0) = chGo [] (2 * ((Q.length : Int) - 1) + lensP Q) (Q.take j ++ [q]) ([], 0) by rw [← hQ]]
      rw [chGo_snoc]
    · refine .inr ?_
      rw [turnP_len]
      omega
  · refine .inr ?_
    rw [turnP_len]
    omega
end Go.Proofs.YtjbcapnpknbbaaaGreat.cmp
end
