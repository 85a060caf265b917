/- Texts that the proof leans on, one behind the other. -/
import Derived.Test.YtjbcapnpknbbaaaGreatBndCmpDoc11
import Derived.Maps.AppendAt
import Derived.Laws.AppendOwnNone
import Derived.Deep.LoopGhost

section
/- The document's Nodes: a tree's nodes of a kind. -/
set_option linter.unusedVariables false
set_option linter.unusedSimpArgs false
namespace Go.Proofs.YtjbcapnpknbbaaaGreat.cmp
open Go.RowKit nod
open Go.Proofs.YtjbcapnpknbbaaaGreat.rng (R RV info_parts)

def leafK (k : Int) : Bool := k == 15 || k == 12 || k == 13 || k == 14
mutual
/-- A tree's nodes of the kind K, but those that play no part. -/
def ndN (K : Int) : Nd → List Nd
  | .mk k m a b g n s ks => (if k = K then [.mk k m a b g n s ks] else []) ++ (if leafK k then [] else ndL K ks)
def ndL (K : Int) : List Nd → List Nd
  | [] => []
  | t :: ts => ndN K t ++ ndL K ts
end
theorem ndL_app (K : Int) : ∀ (l r : List Nd), ndL K (l ++ r) = ndL K l ++ ndL K r
  | [], r => by rw [ndL]; rfl
  | t :: l, r => by rw [List.cons_append, ndL, ndL, ndL_app K l r, List.append_assoc]
theorem ndL_one (K : Int) (t : Nd) : ndL K [t] = ndN K t := by rw [ndL, ndL, List.append_nil]
theorem len_ndN (K : Int) : ∀ (N : Nat) (t : Nd), t.sz ≤ N → (ndN K t).length ≤ t.sz := by
  intro N
  induction N with
  | zero => intro t h; obtain ⟨k, m, a, b, g, n, s, ks⟩ := t; rw [Nd.sz] at h; omega
  | succ N ih =>
    intro t h
    obtain ⟨k, m, a, b, g, n, s, ks⟩ := t
    rw [Nd.sz] at h ⊢
    have hl : ∀ l : List Nd, szL l ≤ N → (ndL K l).length ≤ szL l := by
      intro l
      induction l with
      | nil => intro _; rw [ndL]; simp
      | cons x l ih2 =>
        intro h'
        rw [szL] at h' ⊢
        rw [ndL, List.length_append]
        have := ih x (by omega)
        have := ih2 (by omega)
        omega
    have := hl ks (by omega)
    rw [ndN, List.length_append]
    split <;> split <;> simp <;> omega
/-- Cells that read as nodes, as far as their numbers and names go. -/
inductive NR : List Nd → List Value → Prop
  | nil : NR [] []
  | cons (t : Nd) (k m b : Int) (g : Bool) (sa : Option Addr) (sl sc : Nat) (ao : Option Addr) (nk cap : Nat) (l : List Nd) (xs : List Value) : NR l xs → NR (t :: l) (.int .i64 k :: .int .i64 m :: .int .i64 t.a :: .int .i64 b :: .bool g :: .string t.name :: .slice sa sl sc :: .slice ao nk cap :: xs)
theorem NR.len {l xs} (h : NR l xs) : xs.length = l.length * 8 := by
  induction h with
  | nil => rfl
  | cons t k m b g sa sl sc ao nk cap l xs _ ih => simp [ih]; omega
theorem NR.one {l xs} (h : NR l xs) : ∀ u ∈ xs, u.oneCell' = true := by
  induction h with
  | nil => intro u hu; simp at hu
  | cons t k m b g sa sl sc ao nk cap l xs _ ih =>
    intro u hu
    simp only [List.mem_cons] at hu
    rcases hu with rfl | rfl | rfl | rfl | rfl | rfl | rfl | rfl | hu
    · rfl
    · rfl
    · rfl
    · rfl
    · rfl
    · rfl
    · rfl
    · rfl
    · exact ih u hu
theorem NR.append {l xs l' xs'} (h : NR l xs) (h' : NR l' xs') : NR (l ++ l') (xs ++ xs') := by
  induction h with
  | nil => exact h'
  | cons t k m b g sa sl sc ao nk cap l xs _ ih => exact .cons t k m b g sa sl sc ao nk cap _ _ ih
theorem NR.get {l xs} (h : NR l xs) : ∀ (i : Nat) t, l[i]? = some t → ∃ k m b g sa sl sc ao nk cap, xs[i * 8]? = some (.int .i64 k) ∧ xs[i * 8 + 1]? = some (.int .i64 m) ∧ xs[i * 8 + 2]? = some (.int .i64 t.a) ∧ xs[i * 8 + 3]? = some (.int .i64 b) ∧ xs[i * 8 + 4]? = some (.bool g) ∧ xs[i * 8 + 5]? = some (.string t.name) ∧ xs[i * 8 + 6]? = some (.slice sa sl sc) ∧ xs[i * 8 + 7]? = some (.slice ao nk cap) := by
  induction h with
  | nil => intro i t hi; simp at hi
  | cons t k m b g sa sl sc ao nk cap l xs _ ih =>
    intro i u hi
    cases i with
    | zero => simp at hi; subst hi; exact ⟨k, m, b, g, sa, sl, sc, ao, nk, cap, rfl, rfl, rfl, rfl, rfl, rfl, rfl, rfl⟩
    | succ i =>
      obtain ⟨k', m', b', g', sa', sl', sc', ao', nk', cap', h0, h1, h2, h3, h4, h5, h6, h7⟩ := ih i u (by simpa using hi)
      refine ⟨k', m', b', g', sa', sl', sc', ao', nk', cap', ?_⟩
      rw [show (i + 1) * 8 = i * 8 + 8 by omega]
      exact ⟨h0, h1, h2, h3, h4, h5, h6, h7⟩
theorem infoNode : (Tryz.prog.info? 25).map (fun i => (i.zero, i.size, i.bytes)) = some (some (.agg #[.int .i64 0, .int .i64 0, .int .i64 0, .int .i64 0, .bool false, .string ⟨#[]⟩, .slice none 0 0, .slice none 0 0]), 8, 104) := by kernel_rfl
theorem own_news {w : World} {B : Nat} {ad : Addr} {n c : Nat} {xs : List Value} {t : TypeId} (o : w.ownsRow B t 8 (.slice (some ad) n c) n xs) : ∀ (j : Nat) u, xs[j]? = some u → w.cell? (ad.add j) = some u := by
  intro j u hj
  have hjl := (List.getElem?_eq_some_iff.1 hj).1
  have ho := o
  rcases o.2 with ⟨e, _⟩ | ⟨g, cap, cur, e, _⟩
  · cases e
  · cases e
    rw [Addr.add_lit]
    have := ho.cellAt j (by rw [← ho.1]; exact hjl)
    simpa [hj] using this
theorem len_ndL (K : Int) (l : List Nd) : (ndL K l).length ≤ szL l := by
  induction l with
  | nil => rw [ndL]; simp
  | cons x l ih =>
    rw [szL, ndL, List.length_append]
    have := len_ndN K _ x (Nat.le_refl _)
    omega
set_option maxRecDepth 10000 in
set_option maxHeartbeats 8000000 in
theorem nodes_any (K : Int) (hK : K = 9 ∨ K = 13) : ∀ (N : Nat) (t : Nd) (v : Value) (B : Nat) (w : World), t.sz ≤ N → t.sz ≤ 600 → NV B w t v → B ≤ w.heap.size →
    Calls Tryz.prog 60 #[v, .int .i64 K] w fun e w' => ∃ v' xs, e = .returned v' ∧ w'.ownsRow w.heap.size 25 8 v' (ndN K t).length xs ∧ NR (ndN K t) xs ∧ Below w.heap.size w w' := by
  intro N
  induction N with
  | zero => intro t v B w h; obtain ⟨k, m, a, b, g, n, s, ks⟩ := t; rw [Nd.sz] at h; omega
  | succ N ih =>
    intro t v B w hN hsz hv hBw
    obtain ⟨i0, hi, hz0, hz1, hz2⟩ := info_parts infoNode
    obtain ⟨k, m, a, b, g, n, s, ks, sa, sc, ao, cap, rfl, rfl, _, _, _, hk1, hk2, hk3, hkv⟩ := hv.open
    rw [Nd.sz] at hN hsz
    have HI : Hid (∀ (t : Nd) (v : Value) (W : World), t ∈ ks → NV B W t v → B ≤ W.heap.size → Calls Tryz.prog 60 #[v, .int .i64 K] W fun e w' => ∃ v' xs, e = .returned v' ∧ w'.ownsRow W.heap.size 25 8 v' (ndN K t).length xs ∧ NR (ndN K t) xs ∧ Below W.heap.size W w') := fun t v W hm hv hs => by
      have := szL_mem hm
      exact ih t v B W (by omega) (by omega) hv hs
    have hlen : ks.length ≤ 600 := by have := low.len_szL ks; omega
    have HSZ : Hid (szL ks ≤ 600) := by unfold Hid; omega
    obtain ⟨nk, hnk⟩ : ∃ nk, ks.length = nk := ⟨_, rfl⟩
    have HNK : Hid (ks.length = nk) := hnk
    rw [hnk] at hk1 hlen ⊢
    have HK : Hid (KV B w ao ks) := hkv
    clear ih hN hsz hv hkv hnk
    obtain ⟨sl, hsl⟩ : ∃ sl, s.length = sl := ⟨_, rfl⟩
    rw [hsl]
    by_cases hkk : k = K
    · subst hkk
      have hND : ndN k (.mk k m a b g n s ks) = [.mk k m a b g n s ks] ++ (if leafK k then [] else ndL k ks) := by rw [ndN, if_pos rfl]
      have W1 : Below w.heap.size w ((w.alloc (.cells #[.int .i64 k, .int .i64 m, .int .i64 a, .int .i64 b, .bool g, .string n, .slice sa sl sc, .slice ao nk cap] 25)).alloc (.cells #[.int .i64 k, .int .i64 m, .int .i64 a, .int .i64 b, .bool g, .string n, .slice sa sl sc, .slice ao nk cap] 25)) := below2 _ _ _
      have HB1 : Hid (Bk ((w.alloc (.cells #[.int .i64 k, .int .i64 m, .int .i64 a, .int .i64 b, .bool g, .string n, .slice sa sl sc, .slice ao nk cap] 25)).alloc (.cells #[.int .i64 k, .int .i64 m, .int .i64 a, .int .i64 b, .bool g, .string n, .slice sa sl sc, .slice ao nk cap] 25)) (w.heap.size + 1) #[.int .i64 k, .int .i64 m, .int .i64 a, .int .i64 b, .bool g, .string n, .slice sa sl sc, .slice ao nk cap] 25) := bk2
      have HNW : Hid (∀ (j : Nat) u, ([.int .i64 k, .int .i64 m, .int .i64 a, .int .i64 b, .bool g, .string n, .slice sa sl sc, .slice ao nk cap])[j]? = some u → ((w.alloc (.cells #[.int .i64 k, .int .i64 m, .int .i64 a, .int .i64 b, .bool g, .string n, .slice sa sl sc, .slice ao nk cap] 25)).alloc (.cells #[.int .i64 k, .int .i64 m, .int .i64 a, .int .i64 b, .bool g, .string n, .slice sa sl sc, .slice ao nk cap] 25)).cell? ((⟨w.heap.size + 1, 0, none⟩ : Addr).add j) = some u) := fun j u hj => by
        rw [Addr.add_lit]
        have := HB1.out.cell j (u := u) (by simpa using hj)
        simpa using this
      have HX1 : Hid (Bk ((w.alloc (.cells #[.int .i64 k, .int .i64 m, .int .i64 a, .int .i64 b, .bool g, .string n, .slice sa sl sc, .slice ao nk cap] 25)).alloc (.cells #[.int .i64 k, .int .i64 m, .int .i64 a, .int .i64 b, .bool g, .string n, .slice sa sl sc, .slice ao nk cap] 25)) w.heap.size #[.int .i64 k, .int .i64 m, .int .i64 a, .int .i64 b, .bool g, .string n, .slice sa sl sc, .slice ao nk cap] 25) := (Bk.new w _ _).past _
      have hn1 : NR [.mk k m a b g n s ks] ([.int .i64 k, .int .i64 m, .int .i64 a, .int .i64 b, .bool g, .string n, .slice sa sl sc, .slice ao nk cap]) := .cons (.mk k m a b g n s ks) k m b g sa sl sc ao nk cap _ _ .nil
      have HN1 : Hid (NR [.mk k m a b g n s ks] ([.int .i64 k, .int .i64 m, .int .i64 a, .int .i64 b, .bool g, .string n, .slice sa sl sc, .slice ao nk cap])) := hn1
      have HW1 : Hid (Below w.heap.size w ((w.alloc (.cells #[.int .i64 k, .int .i64 m, .int .i64 a, .int .i64 b, .bool g, .string n, .slice sa sl sc, .slice ao nk cap] 25)).alloc (.cells #[.int .i64 k, .int .i64 m, .int .i64 a, .int .i64 b, .bool g, .string n, .slice sa sl sc, .slice ao nk cap] 25))) := W1
      clear W1 hn1
      go_enter Tryz.func60, Tryz.ntmps60
      go_wp2_with (at_builtin; refine wpList_append_own_at _ rfl _ _ 23 rfl w.heap.size 25 i0 (.agg #[.int .i64 0, .int .i64 0, .int .i64 0, .int .i64 0, .bool false, .string ⟨#[]⟩, .slice none 0 0, .slice none 0 0]) 8 104 Tryz.underlying23 hi hz0 hz1 hz2 rfl (by decide) _ _ _ rfl (World.ownsRow_nil _ _ _ _) ⟨w.heap.size + 1, 0, none⟩ 1 1 ([.int .i64 k, .int .i64 m, .int .i64 a, .int .i64 b, .bool g, .string n, .slice sa sl sc, .slice ao nk cap]) rfl rfl HNW.out HN1.out.one ?cc1 ?cc2 ?cc3 ?_)
      case cc1 => decide
      case cc2 => decide
      case cc3 => simp; omega
      intro v1 w2 ho hg _ hat
      obtain ⟨va, vn, vc, rfl⟩ := own_form ho
      obtain rfl : vn = 1 := by
        rcases ho.2 with ⟨e, h0⟩ | ⟨g1, c1, cu1, e, _⟩
        · omega
        · cases e; rfl
      have HO2 : Hid (w2.ownsRow w.heap.size 25 8 (.slice va 1 vc) 1 ([.int .i64 k, .int .i64 m, .int .i64 a, .int .i64 b, .bool g, .string n, .slice sa sl sc, .slice ao nk cap])) := by unfold Hid; simpa using ho
      have HB2 : Hid (Below w.heap.size w w2) := HW1.out.grown hg (by simp; omega) (fun x e => by cases e)
      have hx2 : Bk w2 w.heap.size #[.int .i64 k, .int .i64 m, .int .i64 a, .int .i64 b, .bool g, .string n, .slice sa sl sc, .slice ao nk cap] 25 := (hg.block _ HX1.out.lt (fun e => by cases e)).trans HX1.out
      have x0 := hx2.cell 0 (u := .int .i64 k) rfl; have x1 := hx2.cell 1 (u := .int .i64 m) rfl; have x2 := hx2.cell 2 (u := .int .i64 a) rfl; have x3 := hx2.cell 3 (u := .int .i64 b) rfl; have x4 := hx2.cell 4 (u := .bool g) rfl; have x5 := hx2.cell 5 (u := .string n) rfl; have x6 := hx2.cell 6 (u := .slice sa sl sc) rfl; have x7 := hx2.cell 7 (u := .slice ao nk cap) rfl
      clear hx2 ho hg hat HX1 HB1
      rcases hK with rfl | rfl
      · have HRES : Hid (ndN 9 (.mk 9 m a b g n s ks) = [.mk 9 m a b g n s ks] ++ ndL 9 ks) := by unfold Hid; rw [hND]; rfl
        clear hND
        have HO0 : Hid True := trivial
        have HB0 : Hid True := trivial
        obtain ⟨K, hKK⟩ : ∃ K : Int, K = 9 := ⟨_, rfl⟩
        go_wp2
        have hnk6 : nk ≤ 600 := by omega
        go_loopg [5, 27] nk (fun gk v5 i wr => ∃ (j n5 vc : Nat) (va : Option Addr) (xs : List Value), v5 = .slice va n5 vc ∧ j + gk = nk ∧ i = .int .i64 j ∧ Hid (wr.ownsRow w.heap.size 25 8 (.slice va n5 vc) n5 xs) ∧ Hid (NR ([Nd.mk 9 m a b g n s ks] ++ ndL 9 (ks.take j)) xs ∧ n5 = ([Nd.mk 9 m a b g n s ks] ++ ndL 9 (ks.take j)).length) ∧ Hid (Below w.heap.size w wr))
        case atStart => exact ⟨0, 1, vc, va, _, rfl, by omega, rfl, HO2, ⟨by simpa [ndL] using HN1.out, by simp [ndL]⟩, HB2⟩
        case round =>
          obtain ⟨j, n5, vc, va, xs, rfl, hj, rfl, HO, HNR, HW⟩ := hrel
          clear HO0 HB0
          by_cases hlt : j < nk
          · obtain ⟨t, ht⟩ := getX HNK.out hlt
            obtain ⟨bb, off, rfl, hka⟩ := (HK.out.below (below_less HW.out hBw)).some (by have := HNK.out; omega)
            obtain ⟨k', m', a', b', g', n', s', kk, sa', sc', ao', cap', rfl, ⟨e0, e1, e2, e3, e4, e5, e6, e7⟩, hv'⟩ := hka.kid ht
            have hmem := List.mem_of_getElem? ht
            have HTK : Hid (ndL 9 (ks.take (j + 1)) = ndL 9 (ks.take j) ++ ndN 9 (.mk k' m' a' b' g' n' s' kk)) := by unfold Hid; rw [takeX ht, ndL_app, ndL_one]
            have hn5 : n5 + (ndN 9 (.mk k' m' a' b' g' n' s' kk)).length ≤ 1300 := by
              have h1 := HNR.out.2
              have h2 := len_ndL 9 (ks.take j)
              have h3 := szL_app (ks.take j) (ks.drop j)
              rw [List.take_append_drop] at h3
              have h4 := len_ndN 9 _ (.mk k' m' a' b' g' n' s' kk) (Nat.le_refl _)
              have h5 := szL_mem hmem
              have h6 := HSZ.out
              have h7 : ([Nd.mk 9 m a b g n s ks] : List Nd).length ≤ 1 := by simp
              rw [List.length_append] at h1
              omega
            generalize s'.length = sl' at *
            generalize kk.length = nk' at *
            have hsr := HW.out.size
            have W3 : Below wr.heap.size wr (wr.alloc (.cells #[.int .i64 k', .int .i64 m', .int .i64 a', .int .i64 b', .bool g', .string n', .slice sa' sl' sc', .slice ao' nk' cap'] 25)) := (Below.refl _ wr).alloc (Nat.le_refl _) _
            have CN := HI.out _ _ (wr.alloc (.cells #[.int .i64 k', .int .i64 m', .int .i64 a', .int .i64 b', .bool g', .string n', .slice sa' sl' sc', .slice ao' nk' cap'] 25)) hmem (hv'.keep (below_less W3 (by omega))) (by simp; omega)
            have HO3 : Hid ((wr.alloc (.cells #[.int .i64 k', .int .i64 m', .int .i64 a', .int .i64 b', .bool g', .string n', .slice sa' sl' sc', .slice ao' nk' cap'] 25)).ownsRow w.heap.size 25 8 (.slice va n5 vc) n5 xs) := rng.own_below' HO.out W3
            have HW3 : Hid (Below w.heap.size w (wr.alloc (.cells #[.int .i64 k', .int .i64 m', .int .i64 a', .int .i64 b', .bool g', .string n', .slice sa' sl' sc', .slice ao' nk' cap'] 25))) := HW.out.trans (below_less W3 hsr)
            have hz3 : (wr.alloc (.cells #[.int .i64 k', .int .i64 m', .int .i64 a', .int .i64 b', .bool g', .string n', .slice sa' sl' sc', .slice ao' nk' cap'] 25)).heap.size = wr.heap.size + 1 := by simp
            obtain ⟨L, hL⟩ : ∃ L, ndN 9 (.mk k' m' a' b' g' n' s' kk) = L := ⟨_, rfl⟩
            rw [hL] at CN HTK hn5
            clear hka hv' ht hmem W3 HO HW hL
            go_wp2_with fail
            go_at_call 60
            refine CN.mono ?_
            clear CN
            rintro e w4 ⟨v', xs', rfl, ho, hnr, hb⟩
            have HO4 : Hid (w4.ownsRow (wr.heap.size + 1) 25 8 v' L.length xs') := (by rw [← hz3]; exact ho)
            have HN4 : Hid (NR L xs') := hnr
            have HB4 : Hid (Below w.heap.size w w4) := HW3.out.trans (below_less hb (by omega))
            have HO5 : Hid (w4.ownsRow w.heap.size 25 8 (.slice va n5 vc) n5 xs) := rng.own_below' HO3.out hb
            have hs4 := HB4.out.size
            clear ho hnr hb
            rcases HO4.out.2 with ⟨rfl, h0⟩ | ⟨gq, cq, curq, rfl, hgq, hgqq, hq1, hq2, _⟩
            · have hLn : L = [] := List.length_eq_zero_iff.1 h0
              subst hLn
              clear h0
              go_wp2_with (at_builtin; refine wpList_append_own_none rfl _ _ 23 rfl w.heap.size 25 i0 8 Tryz.underlying23 hi _ _ _ rfl HO5.out rfl ?_)
              go_wp2
              go_roundg (gk - 1)
              case measure => omega
              case rel => exact ⟨j + 1, n5, vc, va, xs, rfl, by omega, by go_num, HO5, by unfold Hid; rw [HTK.out, List.append_nil]; exact HNR.out, HB4⟩
            · have HNW := own_news HO4.out
              have HNWH : Hid (∀ (j : Nat) u, xs'[j]? = some u → w4.cell? ((⟨gq, 0, none⟩ : Addr).add j) = some u) := HNW
              have hnl := HN4.out.len
              have HNL : Hid (xs'.length = L.length * 8) := hnl
              obtain ⟨nl, hl⟩ : ∃ nl, L.length = nl := ⟨_, rfl⟩
              have HLN : Hid (L.length = nl) := hl
              rw [hl] at HO4 hn5 HNL hq1 ⊢
              clear HNW hnl hl hgqq
              go_wp2_with (at_builtin; refine wpList_append_own_at _ rfl _ _ 23 rfl w.heap.size 25 i0 (.agg #[.int .i64 0, .int .i64 0, .int .i64 0, .int .i64 0, .bool false, .string ⟨#[]⟩, .slice none 0 0, .slice none 0 0]) 8 104 Tryz.underlying23 hi hz0 hz1 hz2 rfl (by decide) _ _ _ rfl HO5.out ⟨gq, 0, none⟩ nl cq xs' rfl HNL.out HNWH.out HN4.out.one ?cc1 ?cc2 hs4 ?_)
              case cc1 => unfold maxLen; omega
              case cc2 => omega
              intro v'' w5 ho5 hg5 _ _
              obtain ⟨vb, vn, vcc, rfl⟩ := own_form ho5
              obtain rfl : vn = n5 + nl := by
                rcases ho5.2 with ⟨e, h0⟩ | ⟨g1, c1, cu1, e, _⟩
                · cases e; exact h0.symm
                · cases e; rfl
              have HO6 : Hid (w5.ownsRow w.heap.size 25 8 (.slice vb (n5 + nl) vcc) (n5 + nl) (xs ++ xs')) := ho5
              have HB6 : Hid (Below w.heap.size w w5) := HB4.out.grown hg5 hs4 (fun x e => (HO5.out.lt x e).1)
              have HN6 : Hid (NR ([Nd.mk 9 m a b g n s ks] ++ ndL 9 (ks.take (j + 1))) (xs ++ xs') ∧ n5 + nl = ([Nd.mk 9 m a b g n s ks] ++ ndL 9 (ks.take (j + 1))).length) := by
                unfold Hid
                rw [HTK.out, ← List.append_assoc]
                exact ⟨HNR.out.1.append HN4.out, by rw [List.length_append, ← HNR.out.2, HLN.out]⟩
              clear ho5 hg5
              go_wp2
              go_roundg (gk - 1)
              case measure => omega
              case rel => exact ⟨j + 1, n5 + nl, vcc, vb, xs ++ xs', rfl, by omega, by go_num, HO6, HN6, HB6⟩
          · have hjn : j = nk := by omega
            have HF : Hid (NR ([Nd.mk 9 m a b g n s ks] ++ ndL 9 ks) xs ∧ n5 = ([Nd.mk 9 m a b g n s ks] ++ ndL 9 ks).length) := by
              have := HNR.out
              rw [hjn, List.take_of_length_le (by have := HNK.out; omega)] at this
              exact this
            clear hjn
            go_wp2
            go_ret
            exact ⟨_, xs, rfl, by rw [HRES.out, ← HF.out.2]; exact HO.out, by rw [HRES.out]; exact HF.out.1, HW.out⟩
      · have HRES : Hid (ndN 13 (.mk 13 m a b g n s ks) = [.mk 13 m a b g n s ks]) := by unfold Hid; rw [hND]; rfl
        clear hND
        go_wp2
        go_ret
        exact ⟨_, _, rfl, by rw [HRES.out]; exact HO2.out, by rw [HRES.out]; exact HN1.out, HB2.out⟩
    · have hND : ndN K (.mk k m a b g n s ks) = (if leafK k then [] else ndL K ks) := by rw [ndN, if_neg hkk, List.nil_append]
      have HB1 : Hid (Below w.heap.size w (w.alloc (.cells #[.int .i64 k, .int .i64 m, .int .i64 a, .int .i64 b, .bool g, .string n, .slice sa sl sc, .slice ao nk cap] 25))) := (Below.refl _ w).alloc (Nat.le_refl _) _
      have hbk : (k == K) = false := by rw [beq_eq_false_iff_ne]; exact hkk
      cases hlf : leafK k with
      | true =>
        have HRES : Hid (ndN K (.mk k m a b g n s ks) = []) := by unfold Hid; rw [hND, if_pos hlf]
        clear hND hkk
        simp only [leafK, Bool.or_eq_true, beq_iff_eq] at hlf
        have HO1 : Hid ((w.alloc (.cells #[.int .i64 k, .int .i64 m, .int .i64 a, .int .i64 b, .bool g, .string n, .slice sa sl sc, .slice ao nk cap] 25)).ownsRow w.heap.size 25 8 (.slice none 0 0) 0 []) := World.ownsRow_nil _ _ _ _
        rcases hlf with ((rfl | rfl) | rfl) | rfl
        all_goals
          go_enter Tryz.func60, Tryz.ntmps60
          go_wp2
          go_ret
          exact ⟨_, [], rfl, by rw [HRES.out]; exact HO1.out, by rw [HRES.out]; exact .nil, HB1.out⟩
      | false =>
        have HRES : Hid (ndN K (.mk k m a b g n s ks) = [] ++ ndL K ks) := by unfold Hid; rw [hND, if_neg (by rw [hlf]; exact fun e => by cases e), List.nil_append]
        clear hND hkk
        simp only [leafK, Bool.or_eq_false_iff] at hlf
        obtain ⟨⟨⟨f15, f12⟩, f13⟩, f14⟩ := hlf
        have HO0 : Hid True := trivial
        have HB0 : Hid True := trivial
        have HO2 : Hid ((w.alloc (.cells #[.int .i64 k, .int .i64 m, .int .i64 a, .int .i64 b, .bool g, .string n, .slice sa sl sc, .slice ao nk cap] 25)).ownsRow w.heap.size 25 8 (.slice none 0 0) 0 []) := World.ownsRow_nil _ _ _ _
        go_enter Tryz.func60, Tryz.ntmps60
        go_wp2
        have hnk6 : nk ≤ 600 := by omega
        go_loopg [5, 27] nk (fun gk v5 i wr => ∃ (j n5 vc : Nat) (va : Option Addr) (xs : List Value), v5 = .slice va n5 vc ∧ j + gk = nk ∧ i = .int .i64 j ∧ Hid (wr.ownsRow w.heap.size 25 8 (.slice va n5 vc) n5 xs) ∧ Hid (NR (([] : List Nd) ++ ndL K (ks.take j)) xs ∧ n5 = (([] : List Nd) ++ ndL K (ks.take j)).length) ∧ Hid (Below w.heap.size w wr))
        case atStart => exact ⟨0, 0, 0, none, [], rfl, by omega, rfl, HO2, ⟨by simpa [ndL] using NR.nil, by simp [ndL]⟩, HB1⟩
        case round =>
          obtain ⟨j, n5, vc, va, xs, rfl, hj, rfl, HO, HNR, HW⟩ := hrel
          clear HO0 HB0
          by_cases hlt : j < nk
          · obtain ⟨t, ht⟩ := getX HNK.out hlt
            obtain ⟨bb, off, rfl, hka⟩ := (HK.out.below (below_less HW.out hBw)).some (by have := HNK.out; omega)
            obtain ⟨k', m', a', b', g', n', s', kk, sa', sc', ao', cap', rfl, ⟨e0, e1, e2, e3, e4, e5, e6, e7⟩, hv'⟩ := hka.kid ht
            have hmem := List.mem_of_getElem? ht
            have HTK : Hid (ndL K (ks.take (j + 1)) = ndL K (ks.take j) ++ ndN K (.mk k' m' a' b' g' n' s' kk)) := by unfold Hid; rw [takeX ht, ndL_app, ndL_one]
            have hn5 : n5 + (ndN K (.mk k' m' a' b' g' n' s' kk)).length ≤ 1300 := by
              have h1 := HNR.out.2
              have h2 := len_ndL K (ks.take j)
              have h3 := szL_app (ks.take j) (ks.drop j)
              rw [List.take_append_drop] at h3
              have h4 := len_ndN K _ (.mk k' m' a' b' g' n' s' kk) (Nat.le_refl _)
              have h5 := szL_mem hmem
              have h6 := HSZ.out
              have h7 : (([] : List Nd) : List Nd).length ≤ 1 := by simp
              rw [List.length_append] at h1
              omega
            generalize s'.length = sl' at *
            generalize kk.length = nk' at *
            have hsr := HW.out.size
            have W3 : Below wr.heap.size wr (wr.alloc (.cells #[.int .i64 k', .int .i64 m', .int .i64 a', .int .i64 b', .bool g', .string n', .slice sa' sl' sc', .slice ao' nk' cap'] 25)) := (Below.refl _ wr).alloc (Nat.le_refl _) _
            have CN := HI.out _ _ (wr.alloc (.cells #[.int .i64 k', .int .i64 m', .int .i64 a', .int .i64 b', .bool g', .string n', .slice sa' sl' sc', .slice ao' nk' cap'] 25)) hmem (hv'.keep (below_less W3 (by omega))) (by simp; omega)
            have HO3 : Hid ((wr.alloc (.cells #[.int .i64 k', .int .i64 m', .int .i64 a', .int .i64 b', .bool g', .string n', .slice sa' sl' sc', .slice ao' nk' cap'] 25)).ownsRow w.heap.size 25 8 (.slice va n5 vc) n5 xs) := rng.own_below' HO.out W3
            have HW3 : Hid (Below w.heap.size w (wr.alloc (.cells #[.int .i64 k', .int .i64 m', .int .i64 a', .int .i64 b', .bool g', .string n', .slice sa' sl' sc', .slice ao' nk' cap'] 25))) := HW.out.trans (below_less W3 hsr)
            have hz3 : (wr.alloc (.cells #[.int .i64 k', .int .i64 m', .int .i64 a', .int .i64 b', .bool g', .string n', .slice sa' sl' sc', .slice ao' nk' cap'] 25)).heap.size = wr.heap.size + 1 := by simp
            obtain ⟨L, hL⟩ : ∃ L, ndN K (.mk k' m' a' b' g' n' s' kk) = L := ⟨_, rfl⟩
            rw [hL] at CN HTK hn5
            clear hka hv' ht hmem W3 HO HW hL
            go_wp2_with fail
            go_at_call 60
            refine CN.mono ?_
            clear CN
            rintro e w4 ⟨v', xs', rfl, ho, hnr, hb⟩
            have HO4 : Hid (w4.ownsRow (wr.heap.size + 1) 25 8 v' L.length xs') := (by rw [← hz3]; exact ho)
            have HN4 : Hid (NR L xs') := hnr
            have HB4 : Hid (Below w.heap.size w w4) := HW3.out.trans (below_less hb (by omega))
            have HO5 : Hid (w4.ownsRow w.heap.size 25 8 (.slice va n5 vc) n5 xs) := rng.own_below' HO3.out hb
            have hs4 := HB4.out.size
            clear ho hnr hb
            rcases HO4.out.2 with ⟨rfl, h0⟩ | ⟨gq, cq, curq, rfl, hgq, hgqq, hq1, hq2, _⟩
            · have hLn : L = [] := List.length_eq_zero_iff.1 h0
              subst hLn
              clear h0
              go_wp2_with (at_builtin; refine wpList_append_own_none rfl _ _ 23 rfl w.heap.size 25 i0 8 Tryz.underlying23 hi _ _ _ rfl HO5.out rfl ?_)
              go_wp2
              go_roundg (gk - 1)
              case measure => omega
              case rel => exact ⟨j + 1, n5, vc, va, xs, rfl, by omega, by go_num, HO5, by unfold Hid; rw [HTK.out, List.append_nil]; exact HNR.out, HB4⟩
            · have HNW := own_news HO4.out
              have HNWH : Hid (∀ (j : Nat) u, xs'[j]? = some u → w4.cell? ((⟨gq, 0, none⟩ : Addr).add j) = some u) := HNW
              have hnl := HN4.out.len
              have HNL : Hid (xs'.length = L.length * 8) := hnl
              obtain ⟨nl, hl⟩ : ∃ nl, L.length = nl := ⟨_, rfl⟩
              have HLN : Hid (L.length = nl) := hl
              rw [hl] at HO4 hn5 HNL hq1 ⊢
              clear HNW hnl hl hgqq
              go_wp2_with (at_builtin; refine wpList_append_own_at _ rfl _ _ 23 rfl w.heap.size 25 i0 (.agg #[.int .i64 0, .int .i64 0, .int .i64 0, .int .i64 0, .bool false, .string ⟨#[]⟩, .slice none 0 0, .slice none 0 0]) 8 104 Tryz.underlying23 hi hz0 hz1 hz2 rfl (by decide) _ _ _ rfl HO5.out ⟨gq, 0, none⟩ nl cq xs' rfl HNL.out HNWH.out HN4.out.one ?cc1 ?cc2 hs4 ?_)
              case cc1 => unfold maxLen; omega
              case cc2 => omega
              intro v'' w5 ho5 hg5 _ _
              obtain ⟨vb, vn, vcc, rfl⟩ := own_form ho5
              obtain rfl : vn = n5 + nl := by
                rcases ho5.2 with ⟨e, h0⟩ | ⟨g1, c1, cu1, e, _⟩
                · cases e; exact h0.symm
                · cases e; rfl
              have HO6 : Hid (w5.ownsRow w.heap.size 25 8 (.slice vb (n5 + nl) vcc) (n5 + nl) (xs ++ xs')) := ho5
              have HB6 : Hid (Below w.heap.size w w5) := HB4.out.grown hg5 hs4 (fun x e => (HO5.out.lt x e).1)
              have HN6 : Hid (NR (([] : List Nd) ++ ndL K (ks.take (j + 1))) (xs ++ xs') ∧ n5 + nl = (([] : List Nd) ++ ndL K (ks.take (j + 1))).length) := by
                unfold Hid
                rw [HTK.out, ← List.append_assoc]
                exact ⟨HNR.out.1.append HN4.out, by rw [List.length_append, ← HNR.out.2, HLN.out]⟩
              clear ho5 hg5
              go_wp2
              go_roundg (gk - 1)
              case measure => omega
              case rel => exact ⟨j + 1, n5 + nl, vcc, vb, xs ++ xs', rfl, by omega, by go_num, HO6, HN6, HB6⟩
          · have hjn : j = nk := by omega
            have HF : Hid (NR (([] : List Nd) ++ ndL K ks) xs ∧ n5 = (([] : List Nd) ++ ndL K ks).length) := by
              have := HNR.out
              rw [hjn, List.take_of_length_le (by have := HNK.out; omega)] at this
              exact this
            clear hjn
            go_wp2
            go_ret
            exact ⟨_, xs, rfl, by rw [HRES.out, ← HF.out.2]; exact HO.out, by rw [HRES.out]; exact HF.out.1, HW.out⟩
end Go.Proofs.YtjbcapnpknbbaaaGreat.cmp
end

section
/- The document's groups as plain lists, and that they say what the program's do. -/
set_option linter.unusedVariables false
set_option linter.unusedSimpArgs false
namespace Go.Proofs.YtjbcapnpknbbaaaGreat.cmp
open Go.RowKit nod
open Go.Proofs.YtjbcapnpknbbaaaGreat.rng (R)
open Go.Proofs.YtjbcapnpknbbaaaGreat.low (standP kidsP plN plL plL_all)

abbrev NB0 : ByteArray := ⟨#[]⟩
def padN (Nm : List ByteArray) (a : Nat) : List ByteArray := Nm ++ List.replicate (a + 1 - Nm.length) NB0
def stepD (s : List ByteArray × List Bool) (a : Nat) (n : ByteArray) : List ByteArray × List Bool := (if 0 < a then (padN s.1 a).set a n else padN s.1 a, s.2.set a true)
def runD : List Nd → List ByteArray × List Bool → Option (List ByteArray × List Bool)
  | [], s => some s
  | t :: ts, s => if 0 < t.a ∧ s.2.getD t.a.toNat false = true then none else runD ts (stepD s t.a.toNat t.name)
def grpD (t : Nd) : Option (List ByteArray) :=
  match runD (ndN 9 t) ([NB0], List.replicate 21 false) with
  | none => none
  | some s => if (ndN 13 t).all (fun k => decide (k.a < s.1.length)) then some s.1 else none
abbrev P9 : Type := Int × Bool × List Bool × List ByteArray
def p9 (G : Gr) : P9 := (G.most, G.twice, G.there, G.names)
def m9 (p : P9) (t : Nd) : P9 := if 0 < t.a then (max p.1 t.a, p.2.1 || p.2.2.1.getD t.a.toNat false, p.2.2.1.set t.a.toNat true, p.2.2.2.set t.a.toNat t.name) else p
theorem p9_meet (G : Gr) (k a : Int) (n : ByteArray) : p9 (meetG G k a n) = if k = 9 then (if 0 < a then (max G.most a, G.twice || G.there.getD a.toNat false, G.there.set a.toNat true, G.names.set a.toNat n) else p9 G) else p9 G := by
  unfold meetG
  by_cases h13 : k = 13
  · rw [if_pos h13, if_neg (by omega)]; rfl
  · rw [if_neg h13]
    by_cases h9 : k = 9
    · by_cases ha : 0 < a
      · rw [if_pos ⟨h9, ha⟩, if_pos h9, if_pos ha]; rfl
      · rw [if_neg (fun h => ha h.2), if_pos h9, if_neg ha]
    · rw [if_neg (fun h => h9 h.1), if_neg h9]
theorem back_meet (G : Gr) (k a : Int) (n : ByteArray) : (meetG G k a n).back = if k = 13 then max G.back a else G.back := by
  unfold meetG
  by_cases h13 : k = 13
  · rw [if_pos h13, if_pos h13]
  · rw [if_neg h13, if_neg h13]
    split <;> rfl
/-- A plain node's kids play a part just where the document looks at them. -/
theorem leaf_kids {k m a b : Int} {s : List R} {nk : Nat} (h : standP k m a b s nk = true) : kidsP k = !leafK k := by
  unfold standP at h
  by_cases c15 : k = 15
  · subst c15; rfl
  rw [if_neg c15] at h
  by_cases c6 : k = 6
  · subst c6; rfl
  by_cases c14 : k = 14
  · subst c14; rfl
  rw [if_neg (by omega)] at h
  by_cases c7 : k = 7
  · subst c7; rfl
  rw [if_neg c7] at h
  by_cases c8 : k = 8
  · subst c8; rfl
  rw [if_neg c8] at h
  by_cases c9 : k = 9
  · subst c9; rfl
  rw [if_neg c9] at h
  by_cases c10 : k = 10
  · subst c10; rfl
  rw [if_neg c10] at h
  by_cases c11 : k = 11
  · subst c11; rfl
  rw [if_neg c11] at h
  by_cases c12 : k = 12
  · subst c12; rfl
  rw [if_neg c12] at h
  by_cases c13 : k = 13
  · subst c13; rfl
  rw [if_neg c13] at h
  cases h
theorem gN_fold : ∀ (N : Nat) (t : Nd) (d : Int) (G : Gr), t.sz ≤ N → plN t d = true →
    p9 (gN t G) = (ndN 9 t).foldl m9 (p9 G) ∧ (gN t G).back = (ndN 13 t).foldl (fun b t => max b t.a) G.back ∧ (∀ g ∈ ndN 9 t, 0 ≤ g.a ∧ g.a ≤ 20) ∧ (∀ g ∈ ndN 13 t, 1 ≤ g.a ∧ g.a ≤ 20) := by
  intro N
  induction N with
  | zero => intro t d G h; obtain ⟨k, m, a, b, g, n, s, ks⟩ := t; rw [Nd.sz] at h; omega
  | succ N ih =>
    intro t d G h hp
    obtain ⟨k, m, a, b, g, n, s, ks⟩ := t
    obtain ⟨hst, hk⟩ := plain_kids hp
    have hlk := leaf_kids hst
    rw [Nd.sz] at h
    have key : ∀ (l : List Nd) (G : Gr), szL l ≤ N → (∀ t ∈ l, plN t (d + 1) = true) →
        p9 (gL l G) = (ndL 9 l).foldl m9 (p9 G) ∧ (gL l G).back = (ndL 13 l).foldl (fun b t => max b t.a) G.back ∧ (∀ g ∈ ndL 9 l, 0 ≤ g.a ∧ g.a ≤ 20) ∧ (∀ g ∈ ndL 13 l, 1 ≤ g.a ∧ g.a ≤ 20) := by
      intro l
      induction l with
      | nil => intro G _ _; rw [gL, ndL, ndL]; exact ⟨rfl, rfl, fun g hg => by simp at hg, fun g hg => by simp at hg⟩
      | cons x l ih2 =>
        intro G hs hl
        rw [szL] at hs
        obtain ⟨a1, a2, a3, a4⟩ := ih x (d + 1) G (by omega) (hl x (List.mem_cons_self ..))
        obtain ⟨b1, b2, b3, b4⟩ := ih2 (gN x G) (by omega) (fun t ht => hl t (List.mem_cons_of_mem _ ht))
        rw [gL, ndL, ndL, List.foldl_append, List.foldl_append, b1, b2, a1, a2]
        exact ⟨rfl, rfl, fun g hg => (List.mem_append.1 hg).elim (a3 g) (b3 g), fun g hg => (List.mem_append.1 hg).elim (a4 g) (b4 g)⟩
    have h9 : k = 9 → 0 ≤ a ∧ a ≤ 20 := fun e => by
      subst e; unfold standP at hst
      rw [if_neg (by decide), if_neg (by decide), if_neg (by decide), if_neg (by decide), if_pos rfl] at hst
      simp only [Bool.and_eq_true, wi_iff] at hst; exact hst.1
    have h13 : k = 13 → 1 ≤ a ∧ a ≤ 20 := fun e => by
      subst e; unfold standP at hst
      rw [if_neg (by decide), if_neg (by decide), if_neg (by decide), if_neg (by decide), if_neg (by decide), if_neg (by decide), if_neg (by decide), if_neg (by decide), if_pos rfl] at hst
      simpa only [wi_iff] using hst
    rw [gN, ndN, ndN, hlk]
    have e9 : p9 (meetG G k a n) = (if k = 9 then [Nd.mk k m a b g n s ks] else []).foldl m9 (p9 G) := by
      rw [p9_meet]
      by_cases c : k = 9
      · rw [if_pos c, if_pos c]; simp only [List.foldl_cons, List.foldl_nil, m9, Nd.a, Nd.name]; rfl
      · rw [if_neg c, if_neg c]; rfl
    have e13 : (meetG G k a n).back = (if k = 13 then [Nd.mk k m a b g n s ks] else []).foldl (fun b t => max b t.a) G.back := by
      rw [back_meet]
      by_cases c : k = 13
      · rw [if_pos c, if_pos c]; rfl
      · rw [if_neg c, if_neg c]; rfl
    have f9 : ∀ x ∈ (if k = 9 then [Nd.mk k m a b g n s ks] else []), 0 ≤ x.a ∧ x.a ≤ 20 := fun x hx => by
      by_cases c : k = 9
      · rw [if_pos c] at hx; simp at hx; subst hx; exact h9 c
      · rw [if_neg c] at hx; simp at hx
    have f13 : ∀ x ∈ (if k = 13 then [Nd.mk k m a b g n s ks] else []), 1 ≤ x.a ∧ x.a ≤ 20 := fun x hx => by
      by_cases c : k = 13
      · rw [if_pos c] at hx; simp at hx; subst hx; exact h13 c
      · rw [if_neg c] at hx; simp at hx
    cases hl : leafK k with
    | true =>
      simp only [Bool.not_true, Bool.false_eq_true, if_false, if_true, List.append_nil]
      exact ⟨e9, e13, f9, f13⟩
    | false =>
      simp only [Bool.not_false, if_true, Bool.false_eq_true, if_false]
      obtain ⟨b1, b2, b3, b4⟩ := key ks (meetG G k a n) (by omega) (hk (by rw [hlk, hl]; rfl))
      rw [b1, b2, e9, e13, List.foldl_append, List.foldl_append]
      exact ⟨rfl, rfl, fun g hg => (List.mem_append.1 hg).elim (f9 g) (b3 g), fun g hg => (List.mem_append.1 hg).elim (f13 g) (b4 g)⟩

structure RD (s : List ByteArray × List Bool) (p : P9) : Prop where
  tw : p.2.1 = false
  lo : 0 ≤ p.1
  hi : p.1 ≤ 20
  nl : p.2.2.2.length = 21
  tl : p.2.2.1.length = 21
  ml : s.2.length = 21
  nm : s.1 = p.2.2.2.take (p.1.toNat + 1)
  em : ∀ i, p.1.toNat < i → i < 21 → p.2.2.2[i]? = some NB0
  mt : ∀ a, 0 < a → s.2[a]? = p.2.2.1[a]?
theorem m9_tw (p : P9) : ∀ (L : List Nd), p.2.1 = true → (L.foldl m9 p).2.1 = true := by
  intro L
  induction L generalizing p with
  | nil => intro h; exact h
  | cons t L ih =>
    intro h
    rw [List.foldl_cons]
    refine ih _ ?_
    unfold m9
    split
    · simp [h]
    · exact h
theorem pad_take (na : List ByteArray) (mo a : Nat) (hl : na.length = 21) (hm : mo ≤ 20) (ha : a ≤ 20) (he : ∀ i, mo < i → i < 21 → na[i]? = some NB0) : padN (na.take (mo + 1)) a = na.take (max mo a + 1) := by
  unfold padN
  have hlt : (na.take (mo + 1)).length = mo + 1 := by rw [List.length_take]; omega
  rw [hlt]
  apply List.ext_getElem?
  intro i
  by_cases h1 : i < mo + 1
  · rw [List.getElem?_append_left (by omega), List.getElem?_take, if_pos h1, List.getElem?_take, if_pos (by omega)]
  · rw [List.getElem?_append_right (by omega), hlt, List.getElem?_replicate, List.getElem?_take]
    by_cases h2 : i < a + 1
    · rw [if_pos (by omega), if_pos (by omega), he i (by omega) (by omega)]
    · rw [if_neg (by omega), if_neg (by omega)]
theorem run_link : ∀ (L : List Nd) (s : List ByteArray × List Bool) (p : P9), (∀ t ∈ L, 0 ≤ t.a ∧ t.a ≤ 20) → RD s p →
    match runD L s with | none => (L.foldl m9 p).2.1 = true | some s' => RD s' (L.foldl m9 p)
  | [], s, p, _, h => h
  | t :: L, s, p, ht, h => by
    obtain ⟨h1, h2⟩ := ht t (List.mem_cons_self ..)
    rw [runD, List.foldl_cons]
    obtain ⟨a, ha⟩ := Int.eq_ofNat_of_zero_le h1
    have ha2 : a ≤ 20 := by omega
    have hta : t.a.toNat = a := by omega
    rw [hta]
    by_cases h0 : 0 < t.a
    · have hm9 : m9 p t = (max p.1 t.a, p.2.1 || p.2.2.1.getD a false, p.2.2.1.set a true, p.2.2.2.set a t.name) := by unfold m9; rw [if_pos h0, hta]
      have hg : s.2.getD a false = p.2.2.1.getD a false := by rw [List.getD_eq_getElem?_getD, List.getD_eq_getElem?_getD, h.mt a (by omega)]
      by_cases hd : s.2.getD a false = true
      · rw [if_pos ⟨h0, hd⟩]
        refine m9_tw _ L ?_
        rw [hm9]; simp only [h.tw, Bool.false_or]; rw [← hg]; exact hd
      · rw [if_neg (fun x => hd x.2)]
        refine run_link L _ _ (fun x hx => ht x (List.mem_cons_of_mem _ hx)) ?_
        have hmo : (max p.1 t.a).toNat = max p.1.toNat a := by omega
        have hlo := h.lo
        have hhi := h.hi
        rw [hm9]
        refine ⟨?_, by simp only; omega, by simp only; omega, by simp only [List.length_set]; exact h.nl, by simp only [List.length_set]; exact h.tl, by simp only [stepD, List.length_set]; exact h.ml, ?_, fun i hi1 hi2 => ?_, fun b hb => ?_⟩
        · simp only [h.tw, Bool.false_or]; rw [← hg]; simpa using hd
        · simp only [stepD]
          rw [if_pos (by omega), h.nm, pad_take _ _ _ h.nl (by omega) ha2 h.em, hmo]
          rw [List.take_set]
        · simp only at hi1 ⊢
          rw [List.getElem?_set_ne (by omega)]
          exact h.em i (by omega) hi2
        · simp only [stepD]
          rw [List.getElem?_set, List.getElem?_set, h.ml, h.tl, h.mt b hb]
    · have hm9 : m9 p t = p := by unfold m9; rw [if_neg h0]
      rw [if_neg (fun x => h0 x.1), hm9]
      refine run_link L _ _ (fun x hx => ht x (List.mem_cons_of_mem _ hx)) ?_
      obtain rfl : a = 0 := by omega
      have hlo := h.lo
      have hhi := h.hi
      refine ⟨h.tw, h.lo, h.hi, h.nl, h.tl, by simp only [stepD, List.length_set]; exact h.ml, ?_, h.em, fun b hb => ?_⟩
      · simp only [stepD]
        rw [if_neg (by decide), h.nm, pad_take _ _ _ h.nl (by omega) (by omega) h.em]
        rw [show max p.1.toNat 0 = p.1.toNat by omega]
      · simp only [stepD]
        rw [List.getElem?_set_ne (by omega)]
        exact h.mt b hb
theorem back_le : ∀ (L : List Nd) (b c : Int), (L.foldl (fun b t => max b t.a) b ≤ c ↔ b ≤ c ∧ ∀ t ∈ L, t.a ≤ c)
  | [], b, c => by simp
  | t :: L, b, c => by
    rw [List.foldl_cons, back_le L]
    constructor
    · rintro ⟨h1, h2⟩
      refine ⟨by omega, fun x hx => ?_⟩
      rcases List.mem_cons.1 hx with rfl | hx
      · omega
      · exact h2 x hx
    · rintro ⟨h1, h2⟩
      have := h2 t (List.mem_cons_self ..)
      exact ⟨by omega, fun x hx => h2 x (List.mem_cons_of_mem _ hx)⟩
/-- The document's groups say what the program's say. -/
theorem grp_link (t : Nd) (d : Int) (hp : plN t d = true) : grpD t = if (gN t G0).twice = true ∨ (gN t G0).most < (gN t G0).back then none else some ((gN t G0).names.take ((gN t G0).most.toNat + 1)) := by
  obtain ⟨h1, h2, h3, h4⟩ := gN_fold _ t d G0 (Nat.le_refl _) hp
  have h0 : RD ([NB0], List.replicate 21 false) (p9 G0) := by
    refine ⟨rfl, by decide, by decide, rfl, rfl, rfl, rfl, fun i hi1 hi2 => ?_, fun a _ => rfl⟩
    show (List.replicate 21 NB0)[i]? = _
    rw [List.getElem?_replicate, if_pos hi2]
  have hr := run_link _ _ _ h3 h0
  unfold grpD
  rw [← h1] at hr
  cases hrun : runD (ndN 9 t) ([NB0], List.replicate 21 false) with
  | none =>
    rw [hrun] at hr
    simp only at hr ⊢
    rw [if_pos (.inl hr)]
  | some s =>
    rw [hrun] at hr
    simp only at hr ⊢
    have htw : (gN t G0).twice = false := hr.tw
    have hnl : (gN t G0).names.length = 21 := hr.nl
    have hlo : 0 ≤ (gN t G0).most := hr.lo
    have hhi : (gN t G0).most ≤ 20 := hr.hi
    have hnm : s.1 = (gN t G0).names.take ((gN t G0).most.toNat + 1) := hr.nm
    have hsl : s.1.length = (gN t G0).most.toNat + 1 := by rw [hnm, List.length_take]; omega
    have hb := back_le (ndN 13 t) 0 (gN t G0).most
    rw [show (0 : Int) = G0.back from rfl, ← h2] at hb
    by_cases hall : (ndN 13 t).all (fun k => decide (k.a < s.1.length)) = true
    · rw [if_pos hall, if_neg, hnm]
      rintro (h | h)
      · rw [htw] at h; cases h
      · have : (gN t G0).back ≤ (gN t G0).most := hb.2 ⟨hlo, fun x hx => by have := List.all_eq_true.1 hall x hx; simp only [decide_eq_true_eq] at this; omega⟩
        omega
    · rw [if_neg hall, if_pos]
      refine .inr ?_
      refine Int.not_le.1 (fun hle => hall (List.all_eq_true.2 fun x hx => ?_))
      have := (hb.1 hle).2 x hx
      simp only [decide_eq_true_eq]
      omega
end Go.Proofs.YtjbcapnpknbbaaaGreat.cmp
end
