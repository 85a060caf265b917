/- Texts that the proof leans on, one behind the other. -/
import Derived.Test.YtjbcapnpknbbaaaGreatBndCmpDoc4
import Derived.Maps.AppendAt
import Derived.Deep.LoopGhost

section
/- The document's builder: alt. -/
set_option linter.unusedVariables false
set_option linter.unusedSimpArgs false
namespace Go.Proofs.YtjbcapnpknbbaaaGreat.cmp
open Go.RowKit nod
open Go.Proofs.YtjbcapnpknbbaaaGreat.rng (R RV info_parts)

theorem szL_app : ∀ (l m : List Nd), szL (l ++ m) = szL l + szL m
  | [], m => by simp [szL]
  | t :: l, m => by rw [List.cons_append, szL, szL, szL_app l m]; omega
theorem nat_one (j : Nat) : ∀ u ∈ natV [j], u.oneCell' = true := by intro u hu; simp [natV] at hu; subst hu; rfl
theorem natV_app (J K : List Nat) : natV (J ++ K) = natV J ++ natV K := by simp [natV]
set_option maxRecDepth 10000 in
set_option maxHeartbeats 8000000 in
theorem alt_d (h : Hd) (S : Nat) (ks : List Nd) (HD : ∀ t ∈ ks, Doc h (5001 + 6 * t.sz) t) (hS : szL ks = S) (hM2 : S ≤ 600) {w0 w : World} {pb B : Nat} {a : Pc (List R)} {G : Option Nat} (hp : DS w0 w pb G h a)
    (ao : Option Addr) (nk cap : Nat) (hnk : ks.length = nk) (hpos : 0 < nk) (hcap : nk ≤ cap) (hkv : KV B w0 ao ks) (hB : B ≤ pb) (hBw : B ≤ w0.heap.size) (hG : ∀ x, G = some x → B ≤ x) (hb : a.1.length ≤ 5000) :
    Calls Tryz.prog 62 #[.pointer (some ⟨pb, 0, none⟩), .slice ao nk cap] w fun e w' => e = .returned (.tuple #[]) ∧ ∃ c, DS w0 w' pb G h c ∧ Nx a c (choiceP [] (ks.map pcN)) (5002 + 6 * S) := by
  obtain ⟨i0, hi, hz0, hz1, hz2⟩ := info_parts rng.infoInt
  have hnk6 : nk ≤ 600 := by have := low.len_szL ks; omega
  obtain ⟨G', E2, hG2, hne⟩ := hp.again
  have hs0 := hp.kq.size
  have hpb := hp.lt
  have HGB : Hid (∀ x, G' = some x → B ≤ x) := fun x e => by rcases hG2 x e with e' | e'; exact hG x e'.symm; omega
  have hBB : Below B w0 w := hp.below hBw hB hG
  have HEnd : Hid (∀ w' c, DS w w' pb G' h c → DS w0 w' pb G h c) := fun w' c e => hp.then hG2 e
  have HK2 : Hid (KV B w ao ks) := hkv.below hBB
  have HE2 : Hid (DS w w pb G' h a) := E2
  have HNK : Hid (ks.length = nk) := hnk
  have HSS : Hid (szL ks = S) := hS
  have HDD : Hid (∀ t ∈ ks, Doc h (5001 + 6 * t.sz) t) := HD
  have HB0 : Hid (B ≤ w.heap.size) := by unfold Hid; omega
  have A0 : Hid (AltD a (ks.map pcN) 0 (5002 + 6 * szL (ks.take 0)) a []) := alt_zero a _ _ (by omega)
  have J0 : Hid (w.ownsRow w.heap.size 3 1 (.slice none 0 0) 0 (natV [])) := World.ownsRow_nil _ _ _ _
  clear HD hp hkv hG hBB hG2 hne E2 hBw hs0 hnk hS
  go_enter Tryz.func62, Tryz.ntmps62
  go_wp2
  go_loopg [4, 12] nk (fun gk v4 i wr => ∃ (j : Nat) (c : Pc (List R)) (J : List Nat) (va : Option Addr) (vc : Nat), v4 = .slice va j vc ∧ j + gk = nk ∧ 0 < gk ∧ i = .int .i64 j ∧ Hid (DS w wr pb G' h c) ∧ Hid (AltD a (ks.map pcN) j (5002 + 6 * szL (ks.take j)) c J) ∧ Hid (wr.ownsRow w.heap.size 3 1 (.slice va j vc) j (natV J)))
  case atStart => exact ⟨0, a, [], none, 0, rfl, by omega, hpos, rfl, HE2, A0, J0⟩
  case round =>
    obtain ⟨j, c, J, va, vc, rfl, hj, hgk, rfl, HDr, HA, HJ⟩ := hrel
    clear HE2 A0 J0
    obtain ⟨t, ht⟩ := getX HNK.out (show j < nk by omega)
    obtain ⟨bb, off, rfl, hka⟩ := (HK2.out.below (HDr.out.below HB0.out hB HGB.out)).some (by have := HNK.out; omega)
    obtain ⟨k', m', a', b', g', n', s', kk, sa', sc', ao', cap', rfl, ⟨e0, e1, e2, e3, e4, e5, e6, e7⟩, hv'⟩ := hka.kid ht
    have hmem := List.mem_of_getElem? ht
    have HT : Hid (ks[j]? = some (.mk k' m' a' b' g' n' s' kk)) := ht
    generalize s'.length = sl' at *
    generalize kk.length = nk' at *
    have hsr := HDr.out.kq.size
    have hpw := HDr.out.lt
    have W3 : Below wr.heap.size wr (wr.alloc (.cells #[.int .i64 k', .int .i64 m', .int .i64 a', .int .i64 b', .bool g', .string n', .slice sa' sl' sc', .slice ao' nk' cap'] 25)) := (Below.refl _ wr).alloc (Nat.le_refl _) _
    have D3 := HDr.out.on W3
    obtain ⟨G3, E3, hG3, hne3⟩ := D3.again
    have HKB : Hid (Bk (wr.alloc (.cells #[.int .i64 k', .int .i64 m', .int .i64 a', .int .i64 b', .bool g', .string n', .slice sa' sl' sc', .slice ao' nk' cap'] 25)) wr.heap.size #[.int .i64 k', .int .i64 m', .int .i64 a', .int .i64 b', .bool g', .string n', .slice sa' sl' sc', .slice ao' nk' cap'] 25) := Bk.new wr _ _
    have hz3 : (wr.alloc (.cells #[.int .i64 k', .int .i64 m', .int .i64 a', .int .i64 b', .bool g', .string n', .slice sa' sl' sc', .slice ao' nk' cap'] 25)).heap.size = wr.heap.size + 1 := by simp
    have HGx : Hid (some wr.heap.size ≠ G3) := hne3 _ _ _ HKB.out (by decide)
    have HNP : Hid (wr.heap.size ≠ pb) := by unfold Hid; omega
    have HJ3 : (wr.alloc (.cells #[.int .i64 k', .int .i64 m', .int .i64 a', .int .i64 b', .bool g', .string n', .slice sa' sl' sc', .slice ao' nk' cap'] 25)).ownsRow w.heap.size 3 1 (.slice va j vc) j (natV J) := rng.own_below' HJ.out W3
    have hV3 : NV B (wr.alloc (.cells #[.int .i64 k', .int .i64 m', .int .i64 a', .int .i64 b', .bool g', .string n', .slice sa' sl' sc', .slice ao' nk' cap'] 25)) (.mk k' m' a' b' g' n' s' kk) (.agg #[.int .i64 k', .int .i64 m', .int .i64 a', .int .i64 b', .bool g', .string n', .slice sa' sl' sc', .slice ao' nk' cap']) := hv'.keep (below_less W3 (by have := HB0.out; omega))
    obtain ⟨w3, hw3⟩ : ∃ w3, wr.alloc (.cells #[.int .i64 k', .int .i64 m', .int .i64 a', .int .i64 b', .bool g', .string n', .slice sa' sl' sc', .slice ao' nk' cap'] 25) = w3 := ⟨_, rfl⟩
    have HW3 : Hid (wr.alloc (.cells #[.int .i64 k', .int .i64 m', .int .i64 a', .int .i64 b', .bool g', .string n', .slice sa' sl' sc', .slice ao' nk' cap'] 25) = w3) := hw3
    rw [hw3] at W3 D3 E3 HKB hz3 HJ3 hV3 hne3
    have HG3B : Hid (∀ x, G3 = some x → B ≤ x) := fun x e => by rcases hG3 x e with e' | e'; exact HGB.out x e'.symm; have := HB0.out; omega
    have HEnd3 : Hid (∀ w' c', DS w3 w' pb G3 h c' → DS w w' pb G' h c') := fun w' c' k => D3.then hG3 k
    have HBX : Hid (∀ w' c', DS w3 w' pb G3 h c' → Bk w' wr.heap.size #[.int .i64 k', .int .i64 m', .int .i64 a', .int .i64 b', .bool g', .string n', .slice sa' sl' sc', .slice ao' nk' cap'] 25) := fun w' c' k => k.bk HKB.out HNP.out HGx.out
    have HOWN : Hid (∀ w' c', DS w3 w' pb G3 h c' → w'.ownsRow w.heap.size 3 1 (.slice va j vc) j (natV J)) := fun w' c' k => E3.own hne3 k HJ3 (by decide) (by decide)
    have HN : Hid (∀ w4 c4, DS w3 w4 pb G3 h c4 → c4.1.length ≤ 20000 → Calls Tryz.prog 23 #[.pointer (some ⟨pb, 0, none⟩), .agg #[.int .i64 k', .int .i64 m', .int .i64 a', .int .i64 b', .bool g', .string n', .slice sa' sl' sc', .slice ao' nk' cap']] w4 fun e w' => e = .returned (.tuple #[]) ∧ ∃ c, DS w3 w' pb G3 h c ∧ Nx c4 c (pcN (.mk k' m' a' b' g' n' s' kk)) (5001 + 6 * Nd.sz (.mk k' m' a' b' g' n' s' kk))) := fun w4 c4 k4 hl => HDD.out _ hmem _ B pb c4 G3 w3 w4 k4 hV3 hB (by have := HB0.out; omega) HG3B.out hl
    have HE3 : Hid (DS w3 w3 pb G3 h c) := E3
    have hsz : szL (ks.take j) + Nd.sz (.mk k' m' a' b' g' n' s' kk) = szL (ks.take (j + 1)) := by rw [takeX ht, szL_app]; simp [szL]
    have hsz2 : szL (ks.take (j + 1)) ≤ S := by have := szL_app (ks.take (j + 1)) (ks.drop (j + 1)); rw [List.take_append_drop, HSS.out] at this; omega
    have HQ : Hid ((ks.map pcN)[j]? = some (pcN (.mk k' m' a' b' g' n' s' kk))) := by unfold Hid; rw [List.getElem?_map, ht]; rfl
    have hQL : (ks.map pcN).length = nk := by rw [List.length_map, HNK.out]
    obtain ⟨tsz, htsz⟩ : ∃ tsz, Nd.sz (.mk k' m' a' b' g' n' s' kk) = tsz := ⟨_, rfl⟩
    have htp : 1 ≤ tsz := by rw [← htsz, Nd.sz]; omega
    obtain ⟨z0, hz0'⟩ : ∃ z0, szL (ks.take j) = z0 := ⟨_, rfl⟩
    obtain ⟨z1, hz1'⟩ : ∃ z1, szL (ks.take (j + 1)) = z1 := ⟨_, rfl⟩
    obtain ⟨q, hq⟩ : ∃ q, pcN (.mk k' m' a' b' g' n' s' kk) = q := ⟨_, rfl⟩
    obtain ⟨Q, hQe⟩ : ∃ Q, ks.map pcN = Q := ⟨_, rfl⟩
    have HZ1 : Hid (szL (ks.take (j + 1)) = z1) := hz1'
    have HQe : Hid (ks.map pcN = Q) := hQe
    rw [htsz, hq] at HN
    rw [htsz, hz0', hz1'] at hsz
    rw [hz1'] at hsz2
    rw [hz0', hQe] at HA
    rw [hq, hQe] at HQ
    rw [hQe] at hQL
    have hcl : c.1.length ≤ 5002 + 6 * z0 := HA.out.le
    have hwn : IntKind.i64.wrap ((nk : Int) - 1) = (nk : Int) - 1 := wrap_near (by omega) (by omega)
    clear htsz hz0' hz1' hq hQe hw3 W3 D3 E3 hG3 hne3 HJ3 hV3 hv' hka ht hmem HJ HDr HT HG3B
    by_cases hlast : j + 1 = nk
    case pos =>
      have hbe : ((j : Int) == (nk : Int) - 1) = true := by rw [beq_iff_eq]; omega
      have CN := HN.out w3 c HE3.out (by omega)
      have HB3 := HBX.out w3 c HE3.out
      have x0 := HB3.cell 0 (u := .int .i64 k') rfl; have x1 := HB3.cell 1 (u := .int .i64 m') rfl; have x2 := HB3.cell 2 (u := .int .i64 a') rfl; have x3 := HB3.cell 3 (u := .int .i64 b') rfl; have x4 := HB3.cell 4 (u := .bool g') rfl; have x5 := HB3.cell 5 (u := .string n') rfl; have x6 := HB3.cell 6 (u := .slice sa' sl' sc') rfl; have x7 := HB3.cell 7 (u := .slice ao' nk' cap') rfl
      clear HB3
      go_upto_region 4 with fail
      rw [HW3.out]
      go_upto_region 11 with (first
        | (go_at_call 23; refine CN.mono ?_; clear CN x0 x1 x2 x3 x4 x5 x6 x7; rintro e w5 ⟨rfl, c2, k5, hnx⟩; have HD5 : Hid (DS w3 w5 pb G3 h c2) := k5; have HNX : Hid (Nx c c2 q (5001 + 6 * tsz)) := hnx; clear k5 hnx))
      obtain ⟨hv2, hn2, hl2⟩ := alt_last HA.out HQ.out (by omega) HNX.out (5002 + 6 * S) (by omega) (by omega)
      have HV2 : Hid (∀ x ∈ J, x < c2.1.length) := hv2
      have HN2 : Hid (Nx a (turnP (jumpI c2.1.length) J c2) (choiceP [] Q) (5002 + 6 * S)) := hn2
      have HD6 : Hid (DS w w5 pb G' h (turnP (jumpI c2.1.length) (J.take 0) c2)) := HEnd3.out w5 c2 HD5.out
      have HJ6 : Hid (w5.ownsRow w.heap.size 3 1 (.slice va j vc) j (natV J)) := HOWN.out w5 c2 HD5.out
      have HJL : Hid (J.length = j) := HA.out.cnt
      obtain ⟨L, hL⟩ : ∃ L, c2.1.length = L := ⟨_, rfl⟩
      have HL : Hid (c2.1.length = L) := hL
      rw [hL] at HV2 HN2 HD6 hl2
      obtain ⟨vn, hvn⟩ : ∃ vn, j = vn := ⟨_, rfl⟩
      subst hvn
      have hvc : j ≤ vc ∧ vc ≤ maxLen := by
        rcases HJ6.out.2 with ⟨e, h0⟩ | ⟨g, cp, cur, e, _, _, h1, h2, _⟩
        · cases e; exact ⟨by omega, by unfold maxLen; omega⟩
        · cases e; exact ⟨h1, h2⟩
      clear hv2 hn2 hL HD5 HNX HOWN HBX HN HE3 HEnd3 HKB HGx HNP HQ HW3 hbe
      go_wp2
      go_loopw [49] (fun i wx => ∃ (u : Nat), u ≤ j ∧ i = .int .i64 u ∧ Hid (DS w wx pb G' h (turnP (jumpI L) (J.take u) c2)) ∧ Hid (wx.ownsRow w.heap.size 3 1 (.slice va j vc) j (natV J))) (fun i _ => j - (intOf i).toNat)
      case atStart => exact ⟨0, Nat.zero_le _, rfl, HD6, HJ6⟩
      case round =>
        obtain ⟨u, hu, rfl, HDx, HJx⟩ := hrel
        clear HD6 HJ6
        by_cases hlt : u < j
        · obtain ⟨jj, hjj⟩ := getX HJL.out hlt
          obtain ⟨jg, jc, ejv, _, _, jcell⟩ := nat_row (by rw [HJL.out]; exact HJx.out) hjj
          rw [HJL.out] at ejv
          obtain ⟨rfl, rfl⟩ : va = some ⟨jg, 0, none⟩ ∧ vc = jc := by cases ejv; exact ⟨rfl, rfl⟩
          clear ejv
          have hjl : jj < (turnP (jumpI L) (J.take u) c2).1.length := by rw [turnP_len, HL.out]; exact HV2.out jj (List.mem_of_getElem? hjj)
          obtain ⟨x, hx⟩ : ∃ x, (turnP (jumpI L) (J.take u) c2).1[jj]? = some x := ⟨_, List.getElem?_eq_getElem hjl⟩
          obtain ⟨gg, cap5, bk5, hc5, hgp5, cx5, cy5, hf5, hX5, _⟩ := HDx.out.elem jj x hx
          have CH := here_d pb _ G' h w wr.drew HDx.out.drew
          have HST : Hid ((((turnP (jumpI L) (J.take u) c2).1.set jj ⟨x.op, (L : Int), x.y, x.mn, x.mx, x.set⟩, (turnP (jumpI L) (J.take u) c2).2) : Pc (List R)) = turnP (jumpI L) (J.take (u + 1)) c2) := by
            unfold Hid
            rw [takeX hjj]
            unfold turnP at hx ⊢
            simp only at hx ⊢
            rw [turn_snoc, turn1, hx]
            rfl
          have HF5 : Hid (DS w (wr.setCell ⟨gg, jj * 6 + 1, none⟩ (.int .i64 (L : Int))) pb G' h (turnP (jumpI L) (J.take (u + 1)) c2)) := by have := hX5 (L : Int); rw [HST.out] at this; exact this
          have hgi : (Value.slice (some ⟨jg, 0, none⟩) j vc).ownBlock ≠ some gg := by
            obtain ⟨v0, p0, b0, o0, _, _⟩ := HDx.out.row
            have e1 := bk5.cell 0 (u := .slice (some ⟨gg, 0, none⟩) (turnP (jumpI L) (J.take u) c2).1.length cap5) rfl
            have e2 := b0.cell 0 (u := v0) rfl
            rw [e1] at e2
            obtain rfl : v0 = .slice (some ⟨gg, 0, none⟩) (turnP (jumpI L) (J.take u) c2).1.length cap5 := (Option.some.inj e2).symm
            exact (own_ne HJx.out o0 (by decide)).elim (fun e => by cases e) id
          have HJy : Hid ((wr.setCell ⟨gg, jj * 6 + 1, none⟩ (.int .i64 (L : Int))).ownsRow w.heap.size 3 1 (.slice (some ⟨jg, 0, none⟩) j vc) j (natV J)) := HJx.out.kept (grown_set wr gg _ _) (.inr hgi)
          have p0 := bk5.cell 0 (u := .slice (some ⟨gg, 0, none⟩) (turnP (jumpI L) (J.take u) c2).1.length cap5) rfl
          have f2 := hf5 (jj * 6 + 1)
          rw [turnP_len, HL.out] at p0 CH hjl hc5
          have hjl2 : (jj : Int) < L := by omega
          clear bk5 hX5 hf5 hx hjj HST cy5 hgi HDx HJx
          go_upto_region 14 with fail
          go_region_held3 (fun w' => w'.cell? ⟨pb, 0, none⟩ = some (.slice (some ⟨gg, 0, none⟩) L cap5)) (go_keep) ((go_at_call 87; refine CH.mono ?_; rintro e w6 ⟨rfl, rfl⟩))
          clear CH
          go_wp2
          go_roundw
          case rel => exact ⟨u + 1, by omega, by go_num, HF5.out.drew, rng.own_below' HJy.out (Below.refl _ _).drew⟩
          case measure => simp [intOf]; omega
        · have hun : u = j := by omega
          have HFin : Hid (turnP (jumpI L) (J.take u) c2 = turnP (jumpI L) J c2) := by unfold Hid; rw [hun, ← HJL.out, List.take_length]
          go_wp2
          go_end0
          refine ⟨rfl, turnP (jumpI L) J c2, HEnd.out _ _ ?_, by rw [HQe.out]; exact HN2.out⟩
          have := HDx.out
          rw [HFin.out] at this
          exact this
    case neg =>
      have hbe : ((j : Int) == (nk : Int) - 1) = false := by rw [beq_eq_false_iff_ne]; omega
      have CS := split_d HE3.out (by omega)
      obtain ⟨s0, hs0⟩ : ∃ s0, c.1.length = s0 := ⟨_, rfl⟩
      have HS0 : Hid (c.1.length = s0) := hs0
      obtain ⟨c1, hc1⟩ : ∃ c1, putP c [ins [] 2 ((c.1.length : Int) + 1) 0] = c1 := ⟨_, rfl⟩
      have HC1 : Hid (putP c [ins [] 2 ((c.1.length : Int) + 1) 0] = c1) := hc1
      have hl1 : c1.1.length = s0 + 1 := by rw [← hc1, len_putP, hs0]; rfl
      rw [hc1, hs0] at CS
      rw [hs0] at hcl
      clear hs0 hc1
      go_upto_region 4 with fail
      rw [HW3.out]
      go_upto_region 7 with (first
        | (go_at_call 86; refine CS.mono ?_; clear CS; rintro e w4 ⟨rfl, k4⟩; have CN := HN.out w4 c1 k4 (by omega); have HB4 := HBX.out w4 c1 k4; have x0 := HB4.cell 0 (u := .int .i64 k') rfl; have x1 := HB4.cell 1 (u := .int .i64 m') rfl; have x2 := HB4.cell 2 (u := .int .i64 a') rfl; have x3 := HB4.cell 3 (u := .int .i64 b') rfl; have x4 := HB4.cell 4 (u := .bool g') rfl; have x5 := HB4.cell 5 (u := .string n') rfl; have x6 := HB4.cell 6 (u := .slice sa' sl' sc') rfl; have x7 := HB4.cell 7 (u := .slice ao' nk' cap') rfl; clear HB4 k4))
      go_upto_region 8 with (first
        | (go_at_call 23; refine CN.mono ?_; clear CN x0 x1 x2 x3 x4 x5 x6 x7; rintro e w5 ⟨rfl, c2, k5, hnx⟩; have HD5 : Hid (DS w3 w5 pb G3 h c2) := k5; have HNX : Hid (Nx c1 c2 q (5001 + 6 * tsz)) := hnx; have CP := put_d k5 3 0 0 0 0 none 0 0 [] (qo_nil _) (by have := hnx.2.2; omega); clear k5 hnx))
      obtain ⟨s2, hs2⟩ : ∃ s2, c2.1.length = s2 := ⟨_, rfl⟩
      have HS2 : Hid (c2.1.length = s2) := hs2
      obtain ⟨c3, hc3⟩ : ∃ c3, putP c2 [ins [] 3 0 0] = c3 := ⟨_, rfl⟩
      have HC3 : Hid (putP c2 [ins [] 3 0 0] = c3) := hc3
      have HL3 : Hid (c3.1.length = s2 + 1) := by unfold Hid; rw [← hc3, len_putP, hs2]; rfl
      have CP' : Calls Tryz.prog 22 #[.pointer (some ⟨pb, 0, none⟩), .agg #[.int .i64 3, .int .i64 0, .int .i64 0, .int .i64 0, .int .i64 0, .slice none 0 0]] w5 fun e w' => e = .returned (.int .i64 s2) ∧ DS w3 w' pb G3 h c3 := by rw [← hs2, ← hc3]; exact CP
      clear CP hs2 hc3
      have hs2b : s0 + 1 ≤ s2 ∧ s2 ≤ 20000 := by have := HNX.out.2.1; have h9 := HNX.out.2.2; have := HS2.out; omega
      go_wp2_with (first
        | (go_at_call 22; refine CP'.mono ?_; clear CP'; rintro e w6 ⟨rfl, k6⟩; have HD6 : Hid (DS w3 w6 pb G3 h c3) := k6; have HJ6 : Hid (w6.ownsRow w.heap.size 3 1 (.slice va j vc) j (natV J)) := HOWN.out w6 c3 k6; have hs6 : w.heap.size ≤ w6.heap.size := (by have := k6.kq.size; omega); clear k6)
        | (at_builtin; refine wpList_append_own_at _ rfl _ _ 72 rfl w.heap.size 3 i0 (.int .i64 0) 1 8 Tryz.underlying72 hi hz0 hz1 hz2 rfl (by decide) _ _ _ rfl (HJ6.out.alloc _) ⟨w6.heap.size, 0, none⟩ 1 1 (natV [s2]) rfl rfl ?cc1 (nat_one s2) ?cc2 ?cc3 ?cc4 ?_))
      case cc1 => intro u x hx; rw [Addr.add_lit]; have := (Bk.new w6 #[.int .i64 (s2 : Int)] 3).cell u (u := x) (by simpa [natV] using hx); simpa using this
      case cc2 => unfold maxLen; omega
      case cc3 => omega
      case cc4 => simp; omega
      intro v' w7 ho hg _ hat
      obtain ⟨va', vn', vc', rfl⟩ := own_form ho
      obtain rfl : vn' = j + 1 := by
        rcases ho.2 with ⟨e, h0⟩ | ⟨g, cp, cur, e, _⟩
        · omega
        · cases e; rfl
      have K6 : DS w w6 pb G' h c3 := HEnd3.out w6 c3 HD6.out
      have K7 : DS w w7 pb G' h c3 := (K6.alloc _).other (HJ6.out.alloc _) (Nat.le_refl _) hg (by decide) (by decide) (by decide)
      have HJ7 : w7.ownsRow w.heap.size 3 1 (.slice va' (j + 1) vc') (j + 1) (natV (J ++ [s2])) := by rw [natV_app]; exact ho
      have hlt3 : s0 < c3.1.length := by have := HL3.out; omega
      obtain ⟨x, hx⟩ : ∃ x, c3.1[s0]? = some x := ⟨_, List.getElem?_eq_getElem hlt3⟩
      obtain ⟨gg, cap5, bk5, hc5, hgp5, cx5, cy5, hf5, _, hY5⟩ := K7.elem s0 x hx
      have CH := here_d pb _ G' h w w7.drew K7.drew
      have HA' : Hid (AltD a Q (j + 1) (5002 + 6 * szL (ks.take (j + 1))) (c3.1.set s0 ⟨x.op, x.x, (c3.1.length : Int), x.mn, x.mx, x.set⟩, c3.2) (J ++ [s2])) := by
        unfold Hid
        have hst := alt_step (M := 5001 + 6 * tsz) HA.out HQ.out (by omega) (by rw [HC1.out]; exact HNX.out) x (by rw [HC3.out, HS0.out]; exact hx) (5002 + 6 * z1) (by omega) (by omega)
        rw [HC3.out, HS0.out, HS2.out] at hst
        rw [HZ1.out]; exact hst
      have HF5 : Hid (DS w (w7.setCell ⟨gg, s0 * 6 + 2, none⟩ (.int .i64 (c3.1.length : Int))) pb G' h (c3.1.set s0 ⟨x.op, x.x, (c3.1.length : Int), x.mn, x.mx, x.set⟩, c3.2)) := hY5 _
      have hgi : (Value.slice va' (j + 1) vc').ownBlock ≠ some gg := by
        obtain ⟨v0, p0, b0, o0, _, _⟩ := K7.row
        have e1 := bk5.cell 0 (u := .slice (some ⟨gg, 0, none⟩) c3.1.length cap5) rfl
        have e2 := b0.cell 0 (u := v0) rfl
        rw [e1] at e2
        obtain rfl : v0 = .slice (some ⟨gg, 0, none⟩) c3.1.length cap5 := (Option.some.inj e2).symm
        rcases own_ne HJ7 o0 (by decide) with e | e
        · rw [e]; exact fun e => by cases e
        · exact e
      have HJy : Hid ((w7.setCell ⟨gg, s0 * 6 + 2, none⟩ (.int .i64 (c3.1.length : Int))).ownsRow w.heap.size 3 1 (.slice va' (j + 1) vc') (j + 1) (natV (J ++ [s2]))) := HJ7.kept (grown_set w7 gg _ _) (.inr hgi)
      have p0 := bk5.cell 0 (u := .slice (some ⟨gg, 0, none⟩) c3.1.length cap5) rfl
      have f2 := hf5 (s0 * 6 + 2)
      obtain ⟨n3, hn3⟩ : ∃ n3, c3.1.length = n3 := ⟨_, rfl⟩
      have HN3 : Hid (c3.1.length = n3) := hn3
      rw [hn3] at HF5 HJy p0 CH hc5 hlt3 HA'
      have hlt4 : (s0 : Int) < n3 := by omega
      clear bk5 hY5 hf5 hx cx5 hgi HJ7 K6 K7 ho hg hat hn3 HD6 HJ6 HNX HD5 HOWN HBX HN HE3 HEnd3 HKB HA HQ
      go_upto_region 9 with fail
      go_region_held3 (fun w' => w'.cell? ⟨pb, 0, none⟩ = some (.slice (some ⟨gg, 0, none⟩) n3 cap5)) (go_keep) ((go_at_call 87; refine CH.mono ?_; rintro e w8 ⟨rfl, rfl⟩))
      clear CH
      go_wp2
      go_roundg (gk - 1)
      case measure => omega
      case rel => exact ⟨j + 1, _, J ++ [s2], va', vc', rfl, by omega, by omega, by go_num, HF5.out.drew, by rw [HQe.out]; exact HA'.out, rng.own_below' HJy.out (Below.refl _ _).drew⟩
end Go.Proofs.YtjbcapnpknbbaaaGreat.cmp
end

section
/- The document's builder: a repetition's lists. -/
set_option linter.unusedVariables false
set_option linter.unusedSimpArgs false
namespace Go.Proofs.YtjbcapnpknbbaaaGreat.cmp
open Go.RowKit nod
open Go.Proofs.YtjbcapnpknbbaaaGreat.rng (R RV info_parts)

/-- So many times a kid, as far as it is laid. -/
structure TimD (a q : Pc (List R)) (T j m : Nat) (c : Pc (List R)) : Prop where
  st : c = addP a (timesP j q) ∨ (5000 < c.1.length ∧ 5000 < a.1.length + T)
  ge : a.1.length ≤ c.1.length
  le : c.1.length ≤ m
theorem tim_zero (a q : Pc (List R)) (T m : Nat) (h : a.1.length ≤ m) : TimD a q T 0 m a := ⟨.inl (by rw [timesP, addP_zero]), Nat.le_refl _, h⟩
theorem tim_step {a q c c2 : Pc (List R)} {T j m M : Nat} (h : TimD a q T j m c) (hj : (j + 1) * q.1.length ≤ T) (hn : Nx c c2 q M) (m' : Nat) (hm : m ≤ m') (hM : M ≤ m') : TimD a q T (j + 1) m' c2 := by
  obtain ⟨st, ge, le⟩ := h
  have h2 := hn.2.1
  have h3 := hn.2.2
  refine ⟨?_, by omega, by omega⟩
  rcases st with st | st
  · rcases hn.1 with hx | hx
    · refine .inl ?_
      rw [hx, st, addP_assoc, timesP]
    · refine .inr ⟨hx.1, ?_⟩
      rw [st, len_addP, len_timesP] at hx
      rw [Nat.succ_mul] at hj
      omega
  · exact .inr ⟨by omega, st.2⟩
theorem tim_full {a q c : Pc (List R)} {T j m A : Nat} (h : TimD a q T j m c) (hj : j * q.1.length ≤ T) (hf : 5000 < c.1.length) : TimD a q T A m c := by
  refine ⟨.inr ⟨hf, ?_⟩, h.ge, h.le⟩
  rcases h.st with st | st
  · rw [st, len_addP, len_timesP] at hf; omega
  · exact st.2
theorem len_repP_inf (e : List R) (m a : Int) (q : Pc (List R)) : (repP e m a (-1) q).1.length = a.toNat * q.1.length + q.1.length + 4 := by
  unfold repP; rw [if_pos rfl, len_addP, len_timesP, len_loopP]; omega
theorem len_repP_fin (e : List R) (m a b : Int) (hb : ¬ b = -1) (q : Pc (List R)) : (repP e m a b q).1.length = a.toNat * q.1.length + (b - a).toNat * (q.1.length + 1) := by
  unfold repP; rw [if_neg hb, len_mayP, len_timesP]
/-- A loop without end, told. -/
theorem loop_end {a q c c1 c2 c4 : Pc (List R)} {m M : Nat} (mode A : Int) (h : TimD a q (repP ([] : List R) mode A (-1) q).1.length A.toNat m c) (h1 : c1 = (c.1 ++ [ins [] 2 ((c.1.length : Int) + 1) 0] ++ [ins [] 10 c.2 0], c.2 + 1)) (hn : Nx c1 c2 q M) (h4 : c4 = putP (putP c2 [ins [] 11 c.2 0]) [ins [] 3 c.1.length 0])
    (lazy : Bool) (hl : lazy = decide (mode = 1)) (i1 i2 : Is (List R)) (hi1 : c4.1[c2.1.length]? = some i1) (hi2 : (c4.1.set c2.1.length ⟨i1.op, i1.x, (c4.1.length : Int), i1.mn, i1.mx, i1.set⟩)[c.1.length]? = some i2) (m' : Nat) (hm : m + 4 ≤ m') (hM : M + 2 ≤ m') :
    Nx a ((c4.1.set c2.1.length ⟨i1.op, i1.x, (c4.1.length : Int), i1.mn, i1.mx, i1.set⟩).set c.1.length (if lazy then ⟨i2.op, (c4.1.length : Int), (c.1.length : Int) + 1, i2.mn, i2.mx, i2.set⟩ else ⟨i2.op, i2.x, (c4.1.length : Int), i2.mn, i2.mx, i2.set⟩), c4.2) (repP [] mode A (-1) q) m' := by
  obtain ⟨st, ge, le⟩ := h
  have hl1 : c1.1.length = c.1.length + 2 := by rw [h1]; simp
  have hl4 : c4.1.length = c2.1.length + 2 := by rw [h4]; simp [len_putP]
  have h2 := hn.2.1
  have h3 := hn.2.2
  refine ⟨?_, by simp only [List.length_set]; omega, by simp only [List.length_set]; omega⟩
  simp only [List.length_set]
  rcases st with st | st
  · rcases hn.1 with hx | hx
    · refine .inl ?_
      have e4 : c4.1 = c2.1 ++ ins [] 11 c.2 0 :: [ins [] 3 c.1.length 0] := by rw [h4]; simp [putP]
      have hii : i1 = ins [] 11 c.2 0 := by
        rw [e4, List.getElem?_append_right (Nat.le_refl _), Nat.sub_self] at hi1
        exact (Option.some.inj hi1).symm
      have e2 : c4.1 = c.1 ++ ins [] 2 ((c.1.length : Int) + 1) 0 :: (ins [] 10 c.2 0 :: (q.1.map (mv ((c.1.length + 2 : Nat) : Int) (c.2 + 1)) ++ [ins [] 11 c.2 0, ins [] 3 c.1.length 0])) := by
        rw [e4, hx, h1]; simp [addP, List.append_assoc]
      have hjj : i2 = ins [] 2 ((c.1.length : Int) + 1) 0 := by
        rw [List.getElem?_set_ne (by omega), e2, List.getElem?_append_right (Nat.le_refl _), Nat.sub_self] at hi2
        exact (Option.some.inj hi2).symm
      have hd := loop_doc ([] : List R) mode c q c1 c2 c4 h1 hx h4
      have hc : (if lazy then ⟨i2.op, (c4.1.length : Int), (c.1.length : Int) + 1, i2.mn, i2.mx, i2.set⟩ else ⟨i2.op, i2.x, (c4.1.length : Int), i2.mn, i2.mx, i2.set⟩ : Is (List R)) = splitI [] mode ((c.1.length : Int) + 1) (c4.1.length : Int) := by
        rw [hjj]; exact close_split ([] : List R) lazy mode (c4.1.length : Int) c.1.length hl
      rw [hc, hii]
      have : repP ([] : List R) mode A (-1) q = addP (timesP A.toNat q) (loopP [] mode q) := by unfold repP; rw [if_pos rfl]
      rw [this, ← addP_assoc, ← st]
      exact hd
    · refine .inr ⟨by omega, ?_⟩
      rw [len_repP_inf]
      rw [hl1, st, len_addP, len_timesP] at hx
      omega
  · exact .inr ⟨by omega, st.2⟩
/-- So many times perhaps, as far as it is laid. -/
structure MayD (a q c0 : Pc (List R)) (A T j m : Nat) (c : Pc (List R)) (J : List Nat) : Prop where
  st : ((c, J) = mayD [] q c0 j ∧ c0 = addP a (timesP A q)) ∨ (5000 < c.1.length ∧ 5000 < a.1.length + T)
  val : ∀ x ∈ J, x < c.1.length
  ge : a.1.length ≤ c.1.length
  le : c.1.length ≤ m
  cnt : J.length = j
theorem may_zero {a q c0 : Pc (List R)} {A T m : Nat} (h : TimD a q T A m c0) : MayD a q c0 A T 0 m c0 [] :=
  ⟨h.st.elim (fun e => .inl ⟨rfl, e⟩) .inr, fun x hx => by simp at hx, h.ge, h.le, rfl⟩
theorem may_step {a q c0 c c2 : Pc (List R)} {A T j m M : Nat} {J : List Nat} (h : MayD a q c0 A T j m c J) (hj : A * q.1.length + (j + 1) * (q.1.length + 1) ≤ T) (hn : Nx (putP c [ins [] 2 ((c.1.length : Int) + 1) 0]) c2 q M) (m' : Nat) (hm : m + 1 ≤ m') (hM : M ≤ m') :
    MayD a q c0 A T (j + 1) m' c2 (J ++ [c.1.length]) := by
  obtain ⟨st, val, ge, le, cnt⟩ := h
  have h2 := hn.2.1
  have h3 := hn.2.2
  rw [len_putP, List.length_singleton] at h2 h3
  refine ⟨?_, fun x hx => ?_, by omega, by omega, by simp [cnt]⟩
  · rcases st with st | st
    · rcases hn.1 with hx | hx
      · refine .inl ⟨?_, st.2⟩
        have e1 : (mayD ([] : List R) q c0 j).1 = c := by rw [← st.1]
        have e2 : (mayD ([] : List R) q c0 j).2 = J := by rw [← st.1]
        simp only [mayD, e1, e2]
        rw [hx]
      · refine .inr ⟨hx.1, ?_⟩
        have e1 : c.1.length = c0.1.length + j * (q.1.length + 1) := by
          have := len_mayD ([] : List R) q c0 j
          rw [← st.1] at this; exact this
        have e2 : c0.1.length = a.1.length + A * q.1.length := by rw [st.2, len_addP, len_timesP]
        rw [len_putP, List.length_singleton] at hx
        rw [Nat.succ_mul] at hj
        omega
    · exact .inr ⟨by omega, st.2⟩
  · simp only [List.mem_append, List.mem_singleton] at hx
    rcases hx with hx | hx
    · have := val x hx; omega
    · omega
theorem may_full {a q c0 c : Pc (List R)} {A T j m : Nat} {J : List Nat} (h : MayD a q c0 A T j m c J) (hj : A * q.1.length + j * (q.1.length + 1) ≤ T) (hf : 5000 < c.1.length) : 5000 < c.1.length ∧ 5000 < a.1.length + T := by
  refine ⟨hf, ?_⟩
  rcases h.st with st | st
  · have e1 : c.1.length = c0.1.length + j * (q.1.length + 1) := by
      have := len_mayD ([] : List R) q c0 j
      rw [← st.1] at this; exact this
    have e2 : c0.1.length = a.1.length + A * q.1.length := by rw [st.2, len_addP, len_timesP]
    omega
  · exact st.2
theorem may_end {a q c0 c : Pc (List R)} {j m : Nat} {J : List Nat} (mode A B : Int) (hB : ¬ B = -1) (hA : 0 ≤ A ∧ A ≤ B) (lazy : Bool) (hl : lazy = decide (mode = 1)) (h : MayD a q c0 A.toNat (repP ([] : List R) mode A B q).1.length j m c J) (he : j = (B - A).toNat ∨ (5000 < c.1.length ∧ 5000 < a.1.length + (repP ([] : List R) mode A B q).1.length)) :
    Nx a (turnP (closeI lazy (c.1.length : Int)) J c) (repP [] mode A B q) m := by
  refine ⟨?_, by rw [turnP_len]; exact h.ge, by rw [turnP_len]; have := h.le; omega⟩
  rw [turnP_len]
  have key : ∀ (_ : (c, J) = mayD [] q c0 j ∧ c0 = addP a (timesP A.toNat q)) (_ : j = (B - A).toNat), turnP (closeI lazy (c.1.length : Int)) J c = addP a (repP [] mode A B q) := fun st hj => by
    have hrep : repP ([] : List R) mode A B q = mayP [] mode (A * q.1.length + (B - A) * ((q.1.length : Int) + 1)) q (B - A).toNat (timesP A.toNat q) := by unfold repP; rw [if_neg hB]
    have hm := may_doc ([] : List R) lazy mode (A * q.1.length + (B - A) * ((q.1.length : Int) + 1)) a c0 q (timesP A.toNat q) hl st.2 j
    rw [← st.1] at hm
    have e1 : c.1.length = c0.1.length + j * (q.1.length + 1) := by
      have := len_mayD ([] : List R) q c0 j
      rw [← st.1] at this; exact this
    have e2 : c0.1.length = a.1.length + A.toNat * q.1.length := by rw [st.2, len_addP, len_timesP]
    have e3 : (c.1.length : Int) = A * q.1.length + (B - A) * ((q.1.length : Int) + 1) + a.1.length := by
      rw [e1, e2, hj]
      have a1 : ((A.toNat : Nat) : Int) = A := by omega
      have a2 : (((B - A).toNat : Nat) : Int) = B - A := by omega
      simp only [Int.natCast_add, Int.natCast_mul, a1, a2, Int.natCast_one]
      omega
    rw [e3, hm, hj, ← hrep]
  rcases he with he | he
  · rcases h.st with st | st
    · exact .inl (key st he)
    · exact .inr st
  · exact .inr he
end Go.Proofs.YtjbcapnpknbbaaaGreat.cmp
end
