/- The document's builder: repeat. -/
import Derived.Test.YtjbcapnpknbbaaaGreatBndCmpDoc7
import Derived.Maps.AppendAt
import Derived.Deep.LoopGhost
import Derived.Deep.CutBlock
set_option linter.unusedVariables false
set_option linter.unusedSimpArgs false
namespace Go.Proofs.YtjbcapnpknbbaaaGreat.cmp
open Go.RowKit nod
open Go.Proofs.YtjbcapnpknbbaaaGreat.rng (R RV info_parts)

set_option maxRecDepth 10000 in
set_option maxHeartbeats 8000000 in
theorem inf_d (h : Hd) (M : Nat) (t : Nd) (HD : Doc h M t) (hM : 5001 ≤ M) (hM2 : M ≤ 15000) {w0 w : World} {pb B : Nat} {a : Pc (List R)} {G : Option Nat} (hp : DS w0 w pb G h a)
    (k m na : Int) (ng : Bool) (nn : ByteArray) (sa : Option Addr) (sl sc : Nat) (ao : Option Addr) (nk cap : Nat) (ks : List Nd) (hks : ks = [t]) (hnk : nk = 1) (hcap : nk ≤ cap) (hkv : KV B w0 ao ks) (hB : B ≤ pb) (hBw : B ≤ w0.heap.size) (hG : ∀ x, G = some x → B ≤ x) (hb : a.1.length ≤ 5000) (hg1 : 0 ≤ na) (hg2 : na ≤ 100) (lz : Bool) (hlz : (m == 1) = lz) :
    Calls Tryz.prog 65 #[.pointer (some ⟨pb, 0, none⟩), .agg #[.int .i64 k, .int .i64 m, .int .i64 na, .int .i64 (-1), .bool ng, .string nn, .slice sa sl sc, .slice ao nk cap]] w fun e w' => e = .returned (.tuple #[]) ∧ ∃ c, DS w0 w' pb G h c ∧ Nx a c (repP [] m na (-1) (pcN t)) (M + 4) := by
  have W2 : Below w.heap.size w (w.alloc (.cells #[.int .i64 k, .int .i64 m, .int .i64 na, .int .i64 (-1), .bool ng, .string nn, .slice sa sl sc, .slice ao nk cap] 25)) := (Below.refl _ w).alloc (Nat.le_refl _) _
  have D2 := hp.on W2
  obtain ⟨G', E2, hG2, hne⟩ := D2.again
  have hs0 := hp.kq.size
  have hpb := hp.lt
  have HX2 : Hid (Bk (w.alloc (.cells #[.int .i64 k, .int .i64 m, .int .i64 na, .int .i64 (-1), .bool ng, .string nn, .slice sa sl sc, .slice ao nk cap] 25)) w.heap.size #[.int .i64 k, .int .i64 m, .int .i64 na, .int .i64 (-1), .bool ng, .string nn, .slice sa sl sc, .slice ao nk cap] 25) := Bk.new w _ _
  have hz : (w.alloc (.cells #[.int .i64 k, .int .i64 m, .int .i64 na, .int .i64 (-1), .bool ng, .string nn, .slice sa sl sc, .slice ao nk cap] 25)).heap.size = w.heap.size + 1 := by simp
  have HNP : Hid (w.heap.size ≠ pb) := by unfold Hid; omega
  have HGx : Hid (some w.heap.size ≠ G') := hne _ _ _ HX2.out (by decide)
  have HGB : Hid (∀ x, G' = some x → B ≤ x) := fun x e => by rcases hG2 x e with e' | e'; exact hG x e'.symm; omega
  have hBB : Below B w0 (w.alloc (.cells #[.int .i64 k, .int .i64 m, .int .i64 na, .int .i64 (-1), .bool ng, .string nn, .slice sa sl sc, .slice ao nk cap] 25)) := D2.below hBw hB hG
  have HEnd : Hid (∀ w' c, DS (w.alloc (.cells #[.int .i64 k, .int .i64 m, .int .i64 na, .int .i64 (-1), .bool ng, .string nn, .slice sa sl sc, .slice ao nk cap] 25)) w' pb G' h c → DS w0 w' pb G h c) := fun w' c e => D2.then hG2 e
  have HK2 : Hid (KV B (w.alloc (.cells #[.int .i64 k, .int .i64 m, .int .i64 na, .int .i64 (-1), .bool ng, .string nn, .slice sa sl sc, .slice ao nk cap] 25)) ao ks) := hkv.below hBB
  obtain ⟨w2, hw2⟩ : ∃ w2, w.alloc (.cells #[.int .i64 k, .int .i64 m, .int .i64 na, .int .i64 (-1), .bool ng, .string nn, .slice sa sl sc, .slice ao nk cap] 25) = w2 := ⟨_, rfl⟩
  have HW2 : Hid (w.alloc (.cells #[.int .i64 k, .int .i64 m, .int .i64 na, .int .i64 (-1), .bool ng, .string nn, .slice sa sl sc, .slice ao nk cap] 25) = w2) := hw2
  rw [hw2] at HX2 hz HEnd E2 HK2
  have HBX : Hid (∀ w' c, DS w2 w' pb G' h c → Bk w' w.heap.size #[.int .i64 k, .int .i64 m, .int .i64 na, .int .i64 (-1), .bool ng, .string nn, .slice sa sl sc, .slice ao nk cap] 25) := fun w' c e => e.bk HX2.out HNP.out HGx.out
  have HBW : Hid (∀ w' c, DS w2 w' pb G' h c → Below B w2 w') := fun w' c e => e.below (by omega) hB HGB.out
  subst hks hnk
  obtain ⟨kb, ko, c0, c1, c2, c3, c4, c5, c6, c7, rfl, hkn, HKC⟩ := kid_at HK2.out
  have HKD : Hid (∀ w' c, DS w2 w' pb G' h c → w'.cell? ⟨kb, ko, none⟩ = some c0 ∧ w'.cell? ⟨kb, ko + 1, none⟩ = some c1 ∧ w'.cell? ⟨kb, ko + 2, none⟩ = some c2 ∧ w'.cell? ⟨kb, ko + 3, none⟩ = some c3 ∧ w'.cell? ⟨kb, ko + 4, none⟩ = some c4 ∧ w'.cell? ⟨kb, ko + 5, none⟩ = some c5 ∧ w'.cell? ⟨kb, ko + 6, none⟩ = some c6 ∧ w'.cell? ⟨kb, ko + 7, none⟩ = some c7) := fun w' c e => HKC w' (HBW.out w' c e)
  have HN : Hid (∀ w3 a1, DS w2 w3 pb G' h a1 → a1.1.length ≤ 20000 → Calls Tryz.prog 23 #[.pointer (some ⟨pb, 0, none⟩), .agg #[c0, c1, c2, c3, c4, c5, c6, c7]] w3 fun e w' => e = .returned (.tuple #[]) ∧ ∃ c, DS w2 w' pb G' h c ∧ Nx a1 c (pcN t) M) := fun w3 a1 k3 hl => HD _ B pb a1 G' w2 w3 k3 hkn hB (by omega) HGB.out hl
  have HE2 : Hid (DS w2 w2 pb G' h a) := E2
  obtain ⟨q, hq⟩ : ∃ q, pcN t = q := ⟨_, rfl⟩
  have HQ : Hid (pcN t = q) := hq
  rw [hq] at HN
  obtain ⟨A, hA⟩ := Int.eq_ofNat_of_zero_le hg1
  subst hA
  have hA2 : A ≤ 100 := by omega
  have HLZ : Hid (lz = decide (m = 1)) := by unfold Hid; rw [← hlz]; rfl
  obtain ⟨T, hT⟩ : ∃ T, (repP ([] : List R) m A (-1) q).1.length = T := ⟨_, rfl⟩
  have HT : Hid ((repP ([] : List R) m A (-1) q).1.length = T) := hT
  have HTq : Hid (A * q.1.length + q.1.length + 4 = T) := by unfold Hid; rw [← hT, len_repP_inf]; simp
  have T0 : Hid (TimD a q T 0 M a) := tim_zero a q T M (by omega)
  have HB2 := HBX.out w2 a HE2.out
  have x0 := HB2.cell 0 (u := .int .i64 k) rfl; have x1 := HB2.cell 1 (u := .int .i64 m) rfl; have x2 := HB2.cell 2 (u := .int .i64 (A : Int)) rfl; have x3 := HB2.cell 3 (u := .int .i64 (-1)) rfl; have x4 := HB2.cell 4 (u := .bool ng) rfl; have x5 := HB2.cell 5 (u := .string nn) rfl; have x6 := HB2.cell 6 (u := .slice sa sl sc) rfl; have x7 := HB2.cell 7 (u := .slice (some ⟨kb, ko, none⟩) 1 cap) rfl
  clear W2 D2 E2 hG2 hne hp HD hs0 hkv hBB hkn HKC HK2 HGB hw2 hq hT HB2 HBW
  go_enter Tryz.func65, Tryz.ntmps65
  go_upto_block 0 with fail
  rw [HW2.out]
  go_cut [5] from 16 to 32 (fun s5 wx => ∃ c, Hid (DS w2 wx pb G' h c) ∧ Hid (TimD a q T A M c))
  case first =>
    go_wp2_with fail
    go_loopg [5] A (fun gk i wr => ∃ (j : Nat) (c : Pc (List R)), j + gk = A ∧ i = .int .i64 j ∧ Hid (DS w2 wr pb G' h c) ∧ Hid (TimD a q T j M c))
    case atStart => exact ⟨0, a, by omega, rfl, HE2, T0⟩
    case round =>
      obtain ⟨j, c, hj, rfl, HDr, HTr⟩ := hrel
      clear HE2 T0 x0 x1 x2 x3 x4 x5 x6 x7
      have HB2 := HBX.out wr c HDr.out
      have x0 := HB2.cell 0 (u := .int .i64 k) rfl; have x1 := HB2.cell 1 (u := .int .i64 m) rfl; have x2 := HB2.cell 2 (u := .int .i64 (A : Int)) rfl; have x3 := HB2.cell 3 (u := .int .i64 (-1)) rfl; have x4 := HB2.cell 4 (u := .bool ng) rfl; have x5 := HB2.cell 5 (u := .string nn) rfl; have x6 := HB2.cell 6 (u := .slice sa sl sc) rfl; have x7 := HB2.cell 7 (u := .slice (some ⟨kb, ko, none⟩) 1 cap) rfl
      clear HB2
      have CF := full_d pb c G' h w2 wr HDr.out
      by_cases hfull : 5000 < c.1.length
      · rw [decide_eq_true hfull] at CF
        have HF : Hid (TimD a q T A M c) := tim_full HTr.out (by have := HTq.out; have := Nat.mul_le_mul_right q.1.length (show j ≤ A by omega); omega) hfull
        by_cases hlt : j < A
        · go_wp2_with ((go_at_call 24; refine CF.mono ?_; clear CF; rintro e w4 ⟨rfl, rfl⟩))
          go_meet
          case rel => exact ⟨c, HDr, HF⟩
        · clear CF
          go_wp2
          go_meet
          case rel => exact ⟨c, HDr, HF⟩
      · rw [decide_eq_false hfull] at CF
        by_cases hlt : j < A
        · have CN := HN.out wr c HDr.out (by omega)
          obtain ⟨z0, z1, z2, z3, z4, z5, z6, z7⟩ := HKD.out wr c HDr.out
          have HTl : Hid ((j + 1) * q.1.length ≤ T) := by unfold Hid; have := HTq.out; have := Nat.mul_le_mul_right q.1.length (show j + 1 ≤ A by omega); omega
          go_wp2_with (first
            | (go_at_call 24; refine CF.mono ?_; clear CF; rintro e w4 ⟨rfl, rfl⟩)
            | (go_at_call 23; refine CN.mono ?_; clear CN z0 z1 z2 z3 z4 z5 z6 z7 x0 x1 x2 x3 x4 x5 x6 x7; rintro e w5 ⟨rfl, d, k5, hnx⟩; have HD5 : Hid (DS w2 w5 pb G' h d) := k5; have HT5 : Hid (TimD a q T (j + 1) M d) := tim_step HTr.out HTl.out hnx M (Nat.le_refl _) (Nat.le_refl _); clear k5 hnx))
          go_roundg (gk - 1)
          case measure => omega
          case rel => exact ⟨j + 1, d, by omega, by go_num, HD5, HT5⟩
        · have hjA : j = A := by omega
          have HF : Hid (TimD a q T A M c) := hjA ▸ HTr
          clear CF
          go_wp2
          go_meet
          case rel => exact ⟨c, HDr, HF⟩
  case rest =>
    obtain ⟨c, HDc, HTc⟩ := hcut
    clear HE2 T0 x0 x1 x2 x3 x4 x5 x6 x7
    have hcl : c.1.length ≤ 15000 := by have := HTc.out.le; omega
    have hcm := HDc.out.ms
    have HB2 := HBX.out _ c HDc.out
    have x0 := HB2.cell 0 (u := .int .i64 k) rfl; have x1 := HB2.cell 1 (u := .int .i64 m) rfl; have x2 := HB2.cell 2 (u := .int .i64 (A : Int)) rfl; have x3 := HB2.cell 3 (u := .int .i64 (-1)) rfl; have x4 := HB2.cell 4 (u := .bool ng) rfl; have x5 := HB2.cell 5 (u := .string nn) rfl; have x6 := HB2.cell 6 (u := .slice sa sl sc) rfl; have x7 := HB2.cell 7 (u := .slice (some ⟨kb, ko, none⟩) 1 cap) rfl
    clear HB2
    have CS := split_d HDc.out (by omega)
    obtain ⟨cs, cm⟩ := c
    simp only at hcl hcm CS
    obtain ⟨s0, hs0⟩ : ∃ s0, cs.length = s0 := ⟨_, rfl⟩
    have HS0 : Hid (cs.length = s0) := hs0
    obtain ⟨d1, hd1⟩ : ∃ d1, cs ++ [ins [] 2 ((cs.length : Int) + 1) 0] = d1 := ⟨_, rfl⟩
    have HD1 : Hid (cs ++ [ins ([] : List R) 2 ((cs.length : Int) + 1) 0] = d1) := hd1
    have hl1 : d1.length = s0 + 1 := by rw [← hd1, List.length_append, hs0]; rfl
    have CS' : Calls Tryz.prog 86 #[.pointer (some ⟨pb, 0, none⟩)] wc fun e w' => e = .returned (.int .i64 s0) ∧ DS w2 w' pb G' h (d1, cm) := by
      rw [← hs0]; have e : putP (cs, cm) [ins ([] : List R) 2 ((cs.length : Int) + 1) 0] = (d1, cm) := by rw [← hd1]; rfl
      rw [← e]; exact CS
    rw [hs0] at hcl hcm
    clear CS hs0 hd1 HDc
    have hwm : IntKind.i64.wrap (cm + 1) = cm + 1 := wrap_near (by omega) (by omega)
    go_upto_region 8 with (first
      | (go_at_call 86; refine CS'.mono ?_; clear CS'; rintro e w3 ⟨rfl, k3⟩))
    obtain ⟨ao3, cap3, bk3, hc3, hn3⟩ := k3.slice
    have m0 := bk3.cell 2 (u := .int .i64 cm) rfl
    have mf := bk3.frozen 2
    have K4 := k3.marks (cm + 1) ⟨by omega, by omega⟩
    clear bk3 hc3 hn3 k3
    have CM := put_d K4 10 cm 0 0 0 none 0 0 [] (qo_nil _) (by simp only; omega)
    obtain ⟨d2, hd2⟩ : ∃ d2 : Pc (List R), putP (d1, cm + 1) [⟨10, cm, 0, 0, 0, []⟩] = d2 := ⟨_, rfl⟩
    have HD2 : Hid (d2 = (cs ++ [ins [] 2 ((cs.length : Int) + 1) 0] ++ [ins [] 10 cm 0], cm + 1)) := by unfold Hid; rw [← hd2, HD1.out]; rfl
    have hl2 : d2.1.length = s0 + 2 := by rw [← hd2, len_putP, hl1]; rfl
    rw [hd2] at CM
    clear K4 hd2
    go_upto_region 11 with (first
      | (go_at_call 22; refine CM.mono ?_; clear CM m0 mf x0 x1 x2 x3 x4 x5 x6 x7; rintro e w5 ⟨rfl, k5⟩; have CN := HN.out w5 d2 k5 (by omega); obtain ⟨z0, z1, z2, z3, z4, z5, z6, z7⟩ := HKD.out w5 d2 k5; have HB2 := HBX.out _ d2 k5; have x0 := HB2.cell 0 (u := .int .i64 k) rfl; have x1 := HB2.cell 1 (u := .int .i64 m) rfl; have x2 := HB2.cell 2 (u := .int .i64 (A : Int)) rfl; have x3 := HB2.cell 3 (u := .int .i64 (-1)) rfl; have x4 := HB2.cell 4 (u := .bool ng) rfl; have x5 := HB2.cell 5 (u := .string nn) rfl; have x6 := HB2.cell 6 (u := .slice sa sl sc) rfl; have x7 := HB2.cell 7 (u := .slice (some ⟨kb, ko, none⟩) 1 cap) rfl; clear HB2 k5))
    go_upto_region 12 with (first
      | (go_at_call 23; refine CN.mono ?_; clear CN z0 z1 z2 z3 z4 z5 z6 z7 x0 x1 x2 x3 x4 x5 x6 x7; rintro e w6 ⟨rfl, d3, k6, hnx⟩; have HNX : Hid (Nx d2 d3 q M) := hnx; have CC := put_d k6 11 cm 0 0 0 none 0 0 [] (qo_nil _) (by have := hnx.2.2; omega); clear k6 hnx))
    have h32 : s0 + 2 ≤ d3.1.length ∧ d3.1.length ≤ 18000 := by have h8 := HNX.out.2.1; have h9 := HNX.out.2.2; omega
    obtain ⟨s3, hs3⟩ : ∃ s3, d3.1.length = s3 := ⟨_, rfl⟩
    have HS3 : Hid (d3.1.length = s3) := hs3
    obtain ⟨d4, hd4⟩ : ∃ d4 : Pc (List R), putP d3 [⟨11, cm, 0, 0, 0, []⟩] = d4 := ⟨_, rfl⟩
    have hl4 : d4.1.length = s3 + 1 := by rw [← hd4, len_putP, hs3]; rfl
    have HD4 : Hid (putP d3 [⟨11, cm, 0, 0, 0, []⟩] = d4) := hd4
    rw [hd4, hs3] at CC
    rw [hs3] at h32
    clear hd4 hs3
    go_upto_region 13 with (first
      | (go_at_call 22; refine CC.mono ?_; clear CC; rintro e w7 ⟨rfl, k7⟩; have CJ := put_d k7 3 (s0 : Int) 0 0 0 none 0 0 [] (qo_nil _) (by omega); clear k7))
    obtain ⟨d5, hd5⟩ : ∃ d5 : Pc (List R), putP d4 [⟨3, (s0 : Int), 0, 0, 0, []⟩] = d5 := ⟨_, rfl⟩
    have hl5 : d5.1.length = s3 + 2 := by rw [← hd5, len_putP, hl4]; rfl
    have HD5 : Hid (d5 = putP (putP d3 [ins [] 11 cm 0]) [ins [] 3 (s0 : Int) 0]) := by unfold Hid; rw [← hd5, ← HD4.out]; rfl
    rw [hd5] at CJ
    clear hd5
    go_upto_region 14 with (first
      | (go_at_call 22; refine CJ.mono ?_; clear CJ; rintro e w8 ⟨rfl, k8⟩))
    obtain ⟨i1, hi1⟩ : ∃ i1, d5.1[s3]? = some i1 := ⟨_, List.getElem?_eq_getElem (by omega)⟩
    obtain ⟨gg, cap5, bk5, hc5, hgp5, cx5, cy5, hf5, _, hY5⟩ := k8.elem s3 i1 hi1
    have CH := here_d pb _ G' h w2 w8.drew k8.drew
    have K9 := hY5 (d5.1.length : Int)
    obtain ⟨d6, hd6⟩ : ∃ d6, d5.1.set s3 ⟨i1.op, i1.x, (d5.1.length : Int), i1.mn, i1.mx, i1.set⟩ = d6 := ⟨_, rfl⟩
    have hl6 : d6.length = d5.1.length := by rw [← hd6, List.length_set]
    obtain ⟨i2, hi2⟩ : ∃ i2, d6[s0]? = some i2 := ⟨_, List.getElem?_eq_getElem (by omega)⟩
    have HD5' : d5 = putP (putP d3 [ins [] 11 ((cs, cm) : Pc (List R)).2 0]) [ins [] 3 (((cs, cm) : Pc (List R)).1.length : Int) 0] := by simp only; rw [HS0.out]; exact HD5.out
    have HFin := loop_end (c4 := d5) m (A : Int) (m := M) (by rw [HT.out]; exact HTc.out) HD2.out HNX.out HD5' lz HLZ.out i1 i2 (by rw [HS3.out]; exact hi1) (by rw [HS3.out, hd6]; show d6[cs.length]? = _; rw [HS0.out]; exact hi2) (M + 4) (Nat.le_refl _) (by omega)
    clear HD5'
    simp only at HFin
    rw [HS3.out, HS0.out, hd6] at HFin
    rw [hd6] at K9
    have K10 := K9.drew
    have CH2 := here_d pb _ G' h w2 _ K10
    have CL := close_d K10 s0 (d5.1.length : Int) lz i2 hi2 (by simp only; omega)
    simp only at CH2 CL
    have HFN : Hid (Nx a (d6.set s0 (if lz then ⟨i2.op, (d5.1.length : Int), (s0 : Int) + 1, i2.mn, i2.mx, i2.set⟩ else ⟨i2.op, i2.x, (d5.1.length : Int), i2.mn, i2.mx, i2.set⟩), d5.2) (repP [] m A (-1) q) (M + 4)) := HFin
    obtain ⟨d7, hd7⟩ : ∃ d7 : Pc (List R), (d6.set s0 (if lz then ⟨i2.op, (d5.1.length : Int), (s0 : Int) + 1, i2.mn, i2.mx, i2.set⟩ else ⟨i2.op, i2.x, (d5.1.length : Int), i2.mn, i2.mx, i2.set⟩), d5.2) = d7 := ⟨_, rfl⟩
    rw [hd7] at CL HFN
    rw [hl6] at CH2
    have p0 := bk5.cell 0 (u := .slice (some ⟨gg, 0, none⟩) d5.1.length cap5) rfl
    have f2 := hf5 (s3 * 6 + 2)
    obtain ⟨n5, hn5⟩ : ∃ n5, d5.1.length = n5 := ⟨_, rfl⟩
    rw [hn5] at p0 CH CH2 CL hc5 hl5
    have hlt4 : (s3 : Int) < n5 := by omega
    have CL' : Calls Tryz.prog 88 #[.pointer (some ⟨pb, 0, none⟩), .int .i64 s0, .int .i64 n5, .bool lz] (w8.setCell ⟨gg, s3 * 6 + 2, none⟩ (.int .i64 n5)).drew fun e w' => e = .returned (.tuple #[]) ∧ DS w2 w' pb G' h d7 := CL
    have CH2' : Calls Tryz.prog 87 #[.pointer (some ⟨pb, 0, none⟩)] (w8.setCell ⟨gg, s3 * 6 + 2, none⟩ (.int .i64 n5)).drew fun e w' => e = .returned (.int .i64 n5) ∧ w' = (w8.setCell ⟨gg, s3 * 6 + 2, none⟩ (.int .i64 n5)).drew := CH2
    clear bk5 hf5 hY5 k8 hi1 hi2 cx5 HFin K9 K10 CL CH2 hd6 hd7 hn5 hl6 hl5 hl4 hl2 hl1
    go_region_held3 (fun w' => w'.cell? ⟨pb, 0, none⟩ = some (.slice (some ⟨gg, 0, none⟩) n5 cap5)) (go_keep) ((go_at_call 87; refine CH.mono ?_; rintro e w9 ⟨rfl, rfl⟩))
    clear CH
    go_wp2_with (first
      | (go_at_call 87; refine CH2'.mono ?_; clear CH2'; rintro e w9 ⟨rfl, rfl⟩)
      | (go_at_call 88; refine CL'.mono ?_; clear CL'; rintro e w10 ⟨rfl, k10⟩; have HK10 : Hid (DS w2 w10 pb G' h d7) := k10; clear k10))
    refine bodyPost_ret (results_none rfl _ _ _) rfl ?_
    exact ⟨rfl, d7, HEnd.out _ _ HK10.out, by rw [HQ.out]; exact HFN.out⟩
set_option maxRecDepth 10000 in
set_option maxHeartbeats 8000000 in
theorem split_r {w0 w : World} {pb : Nat} {a : Pc (List R)} {G : Option Nat} {h : Hd} (hp : DS w0 w pb G h a) (hb : a.1.length ≤ 100000) :
    Calls Tryz.prog 86 #[.pointer (some ⟨pb, 0, none⟩)] w fun e w' => e = .returned (.int .i64 a.1.length) ∧ DS w0 w' pb G h (putP a [ins [] 2 ((a.1.length : Int) + 1) 0]) ∧ ∀ (B n : Nat) (v : Value) (xs : List Value), w.ownsRow B 3 1 v n xs → w'.ownsRow B 3 1 v n xs := by
  obtain ⟨G7, E7, hG7, hne7⟩ := hp.again
  exact (split_d E7 hb).mono fun e w' ⟨he, k⟩ => ⟨he, hp.then hG7 k, fun B n v xs o => E7.own hne7 k o (by decide) (by decide)⟩
theorem close_r {w0 w : World} {pb : Nat} {a : Pc (List R)} {G : Option Nat} {h : Hd} (hp : DS w0 w pb G h a) (s : Nat) (out : Int) (lazy : Bool) (i : Is (List R)) (hi : a.1[s]? = some i) (hb : a.1.length ≤ 100000) :
    Calls Tryz.prog 88 #[.pointer (some ⟨pb, 0, none⟩), .int .i64 s, .int .i64 out, .bool lazy] w fun e w' => e = .returned (.tuple #[]) ∧ DS w0 w' pb G h (a.1.set s (closeI lazy out s i), a.2) ∧ ∀ (B n : Nat) (v : Value) (xs : List Value), w.ownsRow B 3 1 v n xs → w'.ownsRow B 3 1 v n xs := by
  obtain ⟨G7, E7, hG7, hne7⟩ := hp.again
  exact (close_d E7 s out lazy i hi hb).mono fun e w' ⟨he, k⟩ => ⟨he, hp.then hG7 k, fun B n v xs o => E7.own hne7 k o (by decide) (by decide)⟩
set_option maxRecDepth 10000 in
set_option maxHeartbeats 8000000 in
theorem fin_d (h : Hd) (M : Nat) (t : Nd) (HD : Doc h M t) (hM : 5001 ≤ M) (hM2 : M ≤ 15000) {w0 w : World} {pb B : Nat} {a : Pc (List R)} {G : Option Nat} (hp : DS w0 w pb G h a)
    (k m na nb : Int) (ng : Bool) (nn : ByteArray) (sa : Option Addr) (sl sc : Nat) (ao : Option Addr) (nk cap : Nat) (ks : List Nd) (hks : ks = [t]) (hnk : nk = 1) (hcap : nk ≤ cap) (hkv : KV B w0 ao ks) (hB : B ≤ pb) (hBw : B ≤ w0.heap.size) (hG : ∀ x, G = some x → B ≤ x) (hb : a.1.length ≤ 5000) (hg1 : 0 ≤ na) (hg2 : na ≤ 100) (hg3 : na ≤ nb) (hg4 : nb ≤ 100) (lz : Bool) (hlz : (m == 1) = lz) :
    Calls Tryz.prog 65 #[.pointer (some ⟨pb, 0, none⟩), .agg #[.int .i64 k, .int .i64 m, .int .i64 na, .int .i64 nb, .bool ng, .string nn, .slice sa sl sc, .slice ao nk cap]] w fun e w' => e = .returned (.tuple #[]) ∧ ∃ c, DS w0 w' pb G h c ∧ Nx a c (repP [] m na nb (pcN t)) (M + 4) := by
  have W2 : Below w.heap.size w (w.alloc (.cells #[.int .i64 k, .int .i64 m, .int .i64 na, .int .i64 nb, .bool ng, .string nn, .slice sa sl sc, .slice ao nk cap] 25)) := (Below.refl _ w).alloc (Nat.le_refl _) _
  have D2 := hp.on W2
  obtain ⟨G', E2, hG2, hne⟩ := D2.again
  have hs0 := hp.kq.size
  have hpb := hp.lt
  have HX2 : Hid (Bk (w.alloc (.cells #[.int .i64 k, .int .i64 m, .int .i64 na, .int .i64 nb, .bool ng, .string nn, .slice sa sl sc, .slice ao nk cap] 25)) w.heap.size #[.int .i64 k, .int .i64 m, .int .i64 na, .int .i64 nb, .bool ng, .string nn, .slice sa sl sc, .slice ao nk cap] 25) := Bk.new w _ _
  have hz : (w.alloc (.cells #[.int .i64 k, .int .i64 m, .int .i64 na, .int .i64 nb, .bool ng, .string nn, .slice sa sl sc, .slice ao nk cap] 25)).heap.size = w.heap.size + 1 := by simp
  have HNP : Hid (w.heap.size ≠ pb) := by unfold Hid; omega
  have HGx : Hid (some w.heap.size ≠ G') := hne _ _ _ HX2.out (by decide)
  have HGB : Hid (∀ x, G' = some x → B ≤ x) := fun x e => by rcases hG2 x e with e' | e'; exact hG x e'.symm; omega
  have hBB : Below B w0 (w.alloc (.cells #[.int .i64 k, .int .i64 m, .int .i64 na, .int .i64 nb, .bool ng, .string nn, .slice sa sl sc, .slice ao nk cap] 25)) := D2.below hBw hB hG
  have HEnd : Hid (∀ w' c, DS (w.alloc (.cells #[.int .i64 k, .int .i64 m, .int .i64 na, .int .i64 nb, .bool ng, .string nn, .slice sa sl sc, .slice ao nk cap] 25)) w' pb G' h c → DS w0 w' pb G h c) := fun w' c e => D2.then hG2 e
  have HK2 : Hid (KV B (w.alloc (.cells #[.int .i64 k, .int .i64 m, .int .i64 na, .int .i64 nb, .bool ng, .string nn, .slice sa sl sc, .slice ao nk cap] 25)) ao ks) := hkv.below hBB
  obtain ⟨w2, hw2⟩ : ∃ w2, w.alloc (.cells #[.int .i64 k, .int .i64 m, .int .i64 na, .int .i64 nb, .bool ng, .string nn, .slice sa sl sc, .slice ao nk cap] 25) = w2 := ⟨_, rfl⟩
  have HW2 : Hid (w.alloc (.cells #[.int .i64 k, .int .i64 m, .int .i64 na, .int .i64 nb, .bool ng, .string nn, .slice sa sl sc, .slice ao nk cap] 25) = w2) := hw2
  rw [hw2] at HX2 hz HEnd E2 HK2
  have HBX : Hid (∀ w' c, DS w2 w' pb G' h c → Bk w' w.heap.size #[.int .i64 k, .int .i64 m, .int .i64 na, .int .i64 nb, .bool ng, .string nn, .slice sa sl sc, .slice ao nk cap] 25) := fun w' c e => e.bk HX2.out HNP.out HGx.out
  have HBW : Hid (∀ w' c, DS w2 w' pb G' h c → Below B w2 w') := fun w' c e => e.below (by omega) hB HGB.out
  subst hks hnk
  obtain ⟨kb, ko, c0, c1, c2, c3, c4, c5, c6, c7, rfl, hkn, HKC⟩ := kid_at HK2.out
  have HKD : Hid (∀ w' c, DS w2 w' pb G' h c → w'.cell? ⟨kb, ko, none⟩ = some c0 ∧ w'.cell? ⟨kb, ko + 1, none⟩ = some c1 ∧ w'.cell? ⟨kb, ko + 2, none⟩ = some c2 ∧ w'.cell? ⟨kb, ko + 3, none⟩ = some c3 ∧ w'.cell? ⟨kb, ko + 4, none⟩ = some c4 ∧ w'.cell? ⟨kb, ko + 5, none⟩ = some c5 ∧ w'.cell? ⟨kb, ko + 6, none⟩ = some c6 ∧ w'.cell? ⟨kb, ko + 7, none⟩ = some c7) := fun w' c e => HKC w' (HBW.out w' c e)
  have HN : Hid (∀ w3 a1, DS w2 w3 pb G' h a1 → a1.1.length ≤ 20000 → Calls Tryz.prog 23 #[.pointer (some ⟨pb, 0, none⟩), .agg #[c0, c1, c2, c3, c4, c5, c6, c7]] w3 fun e w' => e = .returned (.tuple #[]) ∧ ∃ c, DS w2 w' pb G' h c ∧ Nx a1 c (pcN t) M) := fun w3 a1 k3 hl => HD _ B pb a1 G' w2 w3 k3 hkn hB (by omega) HGB.out hl
  have HNR : ∀ w7 a1, DS w2 w7 pb G' h a1 → a1.1.length ≤ 20000 → Calls Tryz.prog 23 #[.pointer (some ⟨pb, 0, none⟩), .agg #[c0, c1, c2, c3, c4, c5, c6, c7]] w7 fun e w' => e = .returned (.tuple #[]) ∧ ∃ c, DS w2 w' pb G' h c ∧ Nx a1 c (pcN t) M ∧ ∀ (n : Nat) (v : Value) (xs : List Value), w7.ownsRow w2.heap.size 3 1 v n xs → w'.ownsRow w2.heap.size 3 1 v n xs := fun w7 a1 k7 hl => by
    obtain ⟨G7, E7, hG7, hne7⟩ := k7.again
    have hb7 := HBW.out w7 a1 k7
    refine (HD _ B pb a1 G7 w7 w7 E7 (hkn.keep hb7) hB (by have := hb7.size; omega) (fun x e => ?_) hl).mono fun e w' ⟨he, c, kc, hn⟩ => ⟨he, c, k7.then hG7 kc, hn, fun n v xs o => E7.own hne7 kc o (by decide) (by decide)⟩
    rcases hG7 x e with e' | e'
    · exact HGB.out x e'.symm
    · omega
  have HE2 : Hid (DS w2 w2 pb G' h a) := E2
  obtain ⟨q, hq⟩ : ∃ q, pcN t = q := ⟨_, rfl⟩
  have HQ : Hid (pcN t = q) := hq
  rw [hq] at HN HNR
  obtain ⟨A, hA⟩ := Int.eq_ofNat_of_zero_le hg1
  subst hA
  have hA2 : A ≤ 100 := by omega
  have HLZ : Hid (lz = decide (m = 1)) := by unfold Hid; rw [← hlz]; rfl
  obtain ⟨T, hT⟩ : ∃ T, (repP ([] : List R) m A nb q).1.length = T := ⟨_, rfl⟩
  obtain ⟨E, hE⟩ := Int.eq_ofNat_of_zero_le (show 0 ≤ nb - A by omega)
  obtain rfl : nb = (A : Int) + E := by omega
  have hE2 : E ≤ 100 := by omega
  have hnb : ¬ ((A : Int) + E = -1) := by omega
  have HTq : Hid (A * q.1.length + E * (q.1.length + 1) = T) := by unfold Hid; rw [← hT, len_repP_fin _ _ _ _ hnb]; rw [show (A : Int).toNat = A by omega, show ((A : Int) + E - A).toNat = E by omega]
  have HT : Hid ((repP ([] : List R) m A ((A : Int) + E) q).1.length = T) := hT
  have hbe : ((A : Int) + E == -1) = false := by rw [beq_eq_false_iff_ne]; exact hnb
  clear hE hnb
  have T0 : Hid (TimD a q T 0 M a) := tim_zero a q T M (by omega)
  have HB2 := HBX.out w2 a HE2.out
  have x0 := HB2.cell 0 (u := .int .i64 k) rfl; have x1 := HB2.cell 1 (u := .int .i64 m) rfl; have x2 := HB2.cell 2 (u := .int .i64 (A : Int)) rfl; have x3 := HB2.cell 3 (u := .int .i64 ((A : Int) + E)) rfl; have x4 := HB2.cell 4 (u := .bool ng) rfl; have x5 := HB2.cell 5 (u := .string nn) rfl; have x6 := HB2.cell 6 (u := .slice sa sl sc) rfl; have x7 := HB2.cell 7 (u := .slice (some ⟨kb, ko, none⟩) 1 cap) rfl
  clear W2 D2 E2 hG2 hne hp HD hs0 hkv hBB hkn HKC HK2 HGB hw2 hq hT HB2 HBW
  go_enter Tryz.func65, Tryz.ntmps65
  go_upto_block 0 with fail
  rw [HW2.out]
  go_cut [5] from 16 to 32 (fun s5 wx => ∃ c, Hid (DS w2 wx pb G' h c) ∧ Hid (TimD a q T A M c))
  case first =>
    go_wp2_with fail
    go_loopg [5] A (fun gk i wr => ∃ (j : Nat) (c : Pc (List R)), j + gk = A ∧ i = .int .i64 j ∧ Hid (DS w2 wr pb G' h c) ∧ Hid (TimD a q T j M c))
    case atStart => exact ⟨0, a, by omega, rfl, HE2, T0⟩
    case round =>
      obtain ⟨j, c, hj, rfl, HDr, HTr⟩ := hrel
      clear HE2 T0 x0 x1 x2 x3 x4 x5 x6 x7
      have HB2 := HBX.out wr c HDr.out
      have x0 := HB2.cell 0 (u := .int .i64 k) rfl; have x1 := HB2.cell 1 (u := .int .i64 m) rfl; have x2 := HB2.cell 2 (u := .int .i64 (A : Int)) rfl; have x3 := HB2.cell 3 (u := .int .i64 ((A : Int) + E)) rfl; have x4 := HB2.cell 4 (u := .bool ng) rfl; have x5 := HB2.cell 5 (u := .string nn) rfl; have x6 := HB2.cell 6 (u := .slice sa sl sc) rfl; have x7 := HB2.cell 7 (u := .slice (some ⟨kb, ko, none⟩) 1 cap) rfl
      clear HB2
      have CF := full_d pb c G' h w2 wr HDr.out
      by_cases hfull : 5000 < c.1.length
      · rw [decide_eq_true hfull] at CF
        have HF : Hid (TimD a q T A M c) := tim_full HTr.out (by have := HTq.out; have := Nat.mul_le_mul_right q.1.length (show j ≤ A by omega); omega) hfull
        by_cases hlt : j < A
        · go_wp2_with ((go_at_call 24; refine CF.mono ?_; clear CF; rintro e w4 ⟨rfl, rfl⟩))
          go_meet
          case rel => exact ⟨c, HDr, HF⟩
        · clear CF
          go_wp2
          go_meet
          case rel => exact ⟨c, HDr, HF⟩
      · rw [decide_eq_false hfull] at CF
        by_cases hlt : j < A
        · have CN := HN.out wr c HDr.out (by omega)
          obtain ⟨z0, z1, z2, z3, z4, z5, z6, z7⟩ := HKD.out wr c HDr.out
          have HTl : Hid ((j + 1) * q.1.length ≤ T) := by unfold Hid; have := HTq.out; have := Nat.mul_le_mul_right q.1.length (show j + 1 ≤ A by omega); omega
          go_wp2_with (first
            | (go_at_call 24; refine CF.mono ?_; clear CF; rintro e w4 ⟨rfl, rfl⟩)
            | (go_at_call 23; refine CN.mono ?_; clear CN z0 z1 z2 z3 z4 z5 z6 z7 x0 x1 x2 x3 x4 x5 x6 x7; rintro e w5 ⟨rfl, d, k5, hnx⟩; have HD5 : Hid (DS w2 w5 pb G' h d) := k5; have HT5 : Hid (TimD a q T (j + 1) M d) := tim_step HTr.out HTl.out hnx M (Nat.le_refl _) (Nat.le_refl _); clear k5 hnx))
          go_roundg (gk - 1)
          case measure => omega
          case rel => exact ⟨j + 1, d, by omega, by go_num, HD5, HT5⟩
        · have hjA : j = A := by omega
          have HF : Hid (TimD a q T A M c) := hjA ▸ HTr
          clear CF
          go_wp2
          go_meet
          case rel => exact ⟨c, HDr, HF⟩
  case rest =>
    obtain ⟨c, HDc, HTc⟩ := hcut
    clear HE2 T0 x0 x1 x2 x3 x4 x5 x6 x7
    have HB2 := HBX.out _ c HDc.out
    have x0 := HB2.cell 0 (u := .int .i64 k) rfl; have x1 := HB2.cell 1 (u := .int .i64 m) rfl; have x2 := HB2.cell 2 (u := .int .i64 (A : Int)) rfl; have x3 := HB2.cell 3 (u := .int .i64 ((A : Int) + E)) rfl; have x4 := HB2.cell 4 (u := .bool ng) rfl; have x5 := HB2.cell 5 (u := .string nn) rfl; have x6 := HB2.cell 6 (u := .slice sa sl sc) rfl; have x7 := HB2.cell 7 (u := .slice (some ⟨kb, ko, none⟩) 1 cap) rfl
    clear HB2
    have M0 : Hid (MayD a q c A T 0 (M + 1) c []) := ⟨(may_zero HTc.out).st, (may_zero HTc.out).val, (may_zero HTc.out).ge, by have := HTc.out.le; omega, rfl⟩
    have J0 : Hid (wc.ownsRow w2.heap.size 3 1 (.slice none 0 0) 0 (natV [])) := World.ownsRow_nil _ _ _ _
    obtain ⟨i0, hi, hz0, hz1, hz2⟩ := info_parts rng.infoInt
    have HNJ : Hid (∀ w7 a1, DS w2 w7 pb G' h a1 → a1.1.length ≤ 20000 → Calls Tryz.prog 23 #[.pointer (some ⟨pb, 0, none⟩), .agg #[c0, c1, c2, c3, c4, c5, c6, c7]] w7 fun e w' => e = .returned (.tuple #[]) ∧ ∃ c, DS w2 w' pb G' h c ∧ Nx a1 c q M ∧ ∀ (n : Nat) (v : Value) (xs : List Value), w7.ownsRow w2.heap.size 3 1 v n xs → w'.ownsRow w2.heap.size 3 1 v n xs) := HNR
    clear HN
    go_upto_block 2 with fail
    go_cut [9, 10] from 88 to 109 (fun s9 s10 wx => ∃ (c' : Pc (List R)) (J : List Nat) (j : Nat) (va : Option Addr) (vc : Nat), s9 = .slice va j vc ∧ Hid (DS w2 wx pb G' h c') ∧ Hid (wx.ownsRow w2.heap.size 3 1 (.slice va j vc) j (natV J)) ∧ Hid (MayD a q c A T j (M + 1) c' J) ∧ Hid (j = E ∨ (5000 < c'.1.length ∧ 5000 < a.1.length + T)))
    case first =>
      go_wp2_with fail
      go_loopg [9, 10] E (fun gk v9 i wr => ∃ (j : Nat) (c' : Pc (List R)) (J : List Nat) (va : Option Addr) (vc : Nat), v9 = .slice va j vc ∧ j + gk = E ∧ i = .int .i64 ((A : Int) + j) ∧ Hid (DS w2 wr pb G' h c') ∧ Hid (MayD a q c A T j (M + 1) c' J) ∧ Hid (wr.ownsRow w2.heap.size 3 1 (.slice va j vc) j (natV J)))
      case atStart => exact ⟨0, c, [], none, 0, rfl, by omega, by simp, HDc, M0, J0⟩
      case round =>
        obtain ⟨j, c', J, va, vc, rfl, hj, rfl, HDr, HMr, HJr⟩ := hrel
        clear M0 J0 x0 x1 x2 x3 x4 x5 x6 x7 HDc
        have HB2 := HBX.out wr c' HDr.out
        have x0 := HB2.cell 0 (u := .int .i64 k) rfl; have x1 := HB2.cell 1 (u := .int .i64 m) rfl; have x2 := HB2.cell 2 (u := .int .i64 (A : Int)) rfl; have x3 := HB2.cell 3 (u := .int .i64 ((A : Int) + E)) rfl; have x4 := HB2.cell 4 (u := .bool ng) rfl; have x5 := HB2.cell 5 (u := .string nn) rfl; have x6 := HB2.cell 6 (u := .slice sa sl sc) rfl; have x7 := HB2.cell 7 (u := .slice (some ⟨kb, ko, none⟩) 1 cap) rfl
        clear HB2
        have CF := full_d pb c' G' h w2 wr HDr.out
        have hj2 : (A : Int) + j ≤ (A : Int) + E := by omega
        by_cases hlt : j < E
        · have hlt2 : (A : Int) + j < (A : Int) + E := by omega
          by_cases hfull : 5000 < c'.1.length
          · rw [decide_eq_true hfull] at CF
            have HF : Hid (j = E ∨ (5000 < c'.1.length ∧ 5000 < a.1.length + T)) := .inr (may_full HMr.out (by have := HTq.out; have := Nat.mul_le_mul_right (q.1.length + 1) (show j ≤ E by omega); omega) hfull)
            go_wp2_with ((go_at_call 24; refine CF.mono ?_; clear CF; rintro e w4 ⟨rfl, rfl⟩))
            go_meet
            case rel => exact ⟨c', J, j, va, vc, rfl, HDr, HJr, HMr, HF⟩
          · rw [decide_eq_false hfull] at CF
            have CS := split_r HDr.out (by omega)
            obtain ⟨s0, hs0⟩ : ∃ s0, c'.1.length = s0 := ⟨_, rfl⟩
            have HS0 : Hid (c'.1.length = s0) := hs0
            obtain ⟨d1, hd1⟩ : ∃ d1, putP c' [ins [] 2 ((c'.1.length : Int) + 1) 0] = d1 := ⟨_, rfl⟩
            have HD1 : Hid (putP c' [ins [] 2 ((c'.1.length : Int) + 1) 0] = d1) := hd1
            have hl1 : d1.1.length = s0 + 1 := by rw [← hd1, len_putP, hs0]; rfl
            rw [hd1, hs0] at CS
            rw [hs0] at hfull
            clear hs0 hd1
            have hws := HDr.out.kq.size
            go_upto_region 20 with ((go_at_call 24; refine CF.mono ?_; clear CF; rintro e w4 ⟨rfl, rfl⟩))
            go_wp2_with (first
              | (go_at_call 86; refine CS.mono ?_; clear CS; rintro e w6 ⟨rfl, k6, r6⟩; have HD6 : Hid (DS w2 w6 pb G' h d1) := k6; have HJ6 : Hid (w6.ownsRow w2.heap.size 3 1 (.slice va j vc) j (natV J)) := r6 _ _ _ _ HJr.out; have hs6 : w2.heap.size ≤ w6.heap.size := (by have := k6.kq.size; omega); clear k6 r6)
              | (at_builtin; refine wpList_append_own_at _ rfl _ _ 72 rfl w2.heap.size 3 i0 (.int .i64 0) 1 8 Tryz.underlying72 hi hz0 hz1 hz2 rfl (by decide) _ _ _ rfl (HJ6.out.alloc _) ⟨w6.heap.size, 0, none⟩ 1 1 (natV [s0]) rfl rfl ?cc1 (nat_one s0) ?cc2 ?cc3 ?cc4 ?_))
            case cc1 => intro u x hx; rw [Addr.add_lit]; have := (Bk.new w6 #[.int .i64 (s0 : Int)] 3).cell u (u := x) (by simpa [natV] using hx); simpa using this
            case cc2 => unfold maxLen; omega
            case cc3 => omega
            case cc4 => simp; omega
            intro v' w7 ho hg _ hat
            obtain ⟨va', vn', vc', rfl⟩ := own_form ho
            obtain rfl : vn' = j + 1 := by
              rcases ho.2 with ⟨e, h0⟩ | ⟨g, cp, cur, e, _⟩
              · omega
              · cases e; rfl
            have K7 : DS w2 w7 pb G' h d1 := (HD6.out.alloc _).other (HJ6.out.alloc _) (Nat.le_refl _) hg (by decide) (by decide) (by decide)
            have HJ7 : Hid (w7.ownsRow w2.heap.size 3 1 (.slice va' (j + 1) vc') (j + 1) (natV (J ++ [s0]))) := by unfold Hid; rw [natV_app, hz]; exact ho
            have CN := HNJ.out w7 d1 K7 (by omega)
            obtain ⟨z0, z1, z2, z3, z4, z5, z6, z7⟩ := HKD.out w7 d1 K7
            clear x0 x1 x2 x3 x4 x5 x6 x7
            have HB2 := HBX.out _ _ K7
            have x0 := HB2.cell 0 (u := .int .i64 k) rfl; have x1 := HB2.cell 1 (u := .int .i64 m) rfl; have x2 := HB2.cell 2 (u := .int .i64 (A : Int)) rfl; have x3 := HB2.cell 3 (u := .int .i64 ((A : Int) + E)) rfl; have x4 := HB2.cell 4 (u := .bool ng) rfl; have x5 := HB2.cell 5 (u := .string nn) rfl; have x6 := HB2.cell 6 (u := .slice sa sl sc) rfl; have x7 := HB2.cell 7 (u := .slice (some ⟨kb, ko, none⟩) 1 cap) rfl
            clear HB2 K7 ho hg hat HD6 HJ6
            have HTl : Hid (A * q.1.length + (j + 1) * (q.1.length + 1) ≤ T) := by unfold Hid; have := HTq.out; have := Nat.mul_le_mul_right (q.1.length + 1) (show j + 1 ≤ E by omega); omega
            go_wp2_with (first
              | (go_at_call 23; refine CN.mono ?_; clear CN z0 z1 z2 z3 z4 z5 z6 z7 x0 x1 x2 x3 x4 x5 x6 x7; rintro e w8 ⟨rfl, d2, k8, hnx, hrow⟩; have HD8 : Hid (DS w2 w8 pb G' h d2) := k8; have HJ8 : Hid (w8.ownsRow w2.heap.size 3 1 (.slice va' (j + 1) vc') (j + 1) (natV (J ++ [s0]))) := hrow _ _ _ HJ7.out; have HNX : Hid (Nx d1 d2 q M) := hnx; clear k8 hnx hrow))
            have HM8 : Hid (MayD a q c A T (j + 1) (M + 1) d2 (J ++ [s0])) := by
              have h0 : MayD a q c A T j (max c'.1.length 1) c' J := ⟨HMr.out.st, HMr.out.val, HMr.out.ge, by omega, HMr.out.cnt⟩
              have := may_step h0 HTl.out (by rw [HD1.out]; exact HNX.out) (M + 1) (by rw [HS0.out]; omega) (by omega)
              rw [HS0.out] at this; exact this
            go_roundg (gk - 1)
            case measure => omega
            case rel => exact ⟨j + 1, d2, J ++ [s0], va', vc', rfl, by omega, by go_num, HD8, HM8, HJ8⟩
        · have hjE : j = E := by omega
          have HF : Hid (j = E ∨ (5000 < c'.1.length ∧ 5000 < a.1.length + T)) := .inl hjE
          have hlt2 : ¬ (A : Int) + j < (A : Int) + E := by omega
          clear CF hjE
          go_wp2
          go_meet
          case rel => exact ⟨c', J, j, va, vc, rfl, HDr, HJr, HMr, HF⟩
    case rest =>
      obtain ⟨cc, J, j, va, vc, rfl, HDx, HJx, HMx, HFx⟩ := hcut
      clear M0 J0 x0 x1 x2 x3 x4 x5 x6 x7 HDc HNJ HKD HBX
      have hJL : J.length = j := HMx.out.cnt
      have HJL : Hid (J.length = j) := hJL
      have hcc : cc.1.length ≤ 16000 := by have := HMx.out.le; omega
      have HVAL : Hid (∀ x ∈ J, x < cc.1.length) := HMx.out.val
      have hEnd := may_end (a := a) (q := q) (c0 := c) (c := cc) (j := j) (m := M + 1) (J := J) m (A : Int) ((A : Int) + E) (by omega) ⟨by omega, by omega⟩ lz HLZ.out (by rw [HT.out, show ((A : Int)).toNat = A by omega]; exact HMx.out) (by rw [HT.out, show ((A : Int) + E - A).toNat = E by omega]; exact HFx.out)
      obtain ⟨L, hL⟩ : ∃ L, cc.1.length = L := ⟨_, rfl⟩
      have HL : Hid (cc.1.length = L) := hL
      rw [hL] at hEnd hcc HVAL
      have HEN : Hid (Nx a (turnP (closeI lz (L : Int)) J cc) (repP [] m A ((A : Int) + E) q) (M + 1)) := hEnd
      have hjv : j ≤ vc ∧ vc ≤ maxLen := by
        rcases HJx.out.2 with ⟨e, h0⟩ | ⟨g, cp, cur, e, _, _, h1, h2, _⟩
        · cases e; exact ⟨by omega, by unfold maxLen; omega⟩
        · cases e; exact ⟨h1, h2⟩
      have HD0 : Hid (DS w2 wc pb G' h (turnP (closeI lz (L : Int)) (J.take 0) cc)) := HDx
      clear hEnd hL hJL HMx HFx HDx HTq HT HTc HLZ
      have hj63 : j ≤ 9223372036854775807 := by have := hjv.1; have := hjv.2; unfold maxLen at *; omega
      go_wp2
      go_loopw [112] (fun i wx => ∃ (u : Nat), u ≤ j ∧ i = .int .i64 u ∧ Hid (DS w2 wx pb G' h (turnP (closeI lz (L : Int)) (J.take u) cc)) ∧ Hid (wx.ownsRow w2.heap.size 3 1 (.slice va j vc) j (natV J))) (fun i _ => j - (intOf i).toNat)
      case atStart => exact ⟨0, Nat.zero_le _, rfl, HD0, HJx⟩
      case round =>
        obtain ⟨u, hu, rfl, HDy, HJy⟩ := hrel
        clear HD0 HJx
        by_cases hlt : u < j
        · obtain ⟨jj, hjj⟩ := getX HJL.out hlt
          obtain ⟨jg, jc, ejv, _, _, jcell⟩ := nat_row (by rw [HJL.out]; exact HJy.out) hjj
          rw [HJL.out] at ejv
          obtain ⟨rfl, rfl⟩ : va = some ⟨jg, 0, none⟩ ∧ vc = jc := by cases ejv; exact ⟨rfl, rfl⟩
          clear ejv
          have hjl : jj < (turnP (closeI lz (L : Int)) (J.take u) cc).1.length := by rw [turnP_len, HL.out]; exact HVAL.out jj (List.mem_of_getElem? hjj)
          obtain ⟨x, hx⟩ : ∃ x, (turnP (closeI lz (L : Int)) (J.take u) cc).1[jj]? = some x := ⟨_, List.getElem?_eq_getElem hjl⟩
          have CH := here_d pb _ G' h w2 wr HDy.out
          have CL := close_r HDy.out jj (L : Int) lz x hx (by rw [turnP_len, HL.out]; omega)
          have HST : Hid ((((turnP (closeI lz (L : Int)) (J.take u) cc).1.set jj (closeI lz (L : Int) jj x), (turnP (closeI lz (L : Int)) (J.take u) cc).2) : Pc (List R)) = turnP (closeI lz (L : Int)) (J.take (u + 1)) cc) := by
            unfold Hid
            rw [takeX hjj]
            unfold turnP at hx ⊢
            simp only at hx ⊢
            rw [turn_snoc, turn1, hx]
          rw [HST.out] at CL
          rw [turnP_len, HL.out] at CH
          clear hx hjl
          go_wp2_with (first
            | (go_at_call 87; refine CH.mono ?_; clear CH; rintro e w6 ⟨rfl, rfl⟩)
            | (go_at_call 88; refine CL.mono ?_; clear CL; rintro e w7 ⟨rfl, k7, r7⟩; have HD7 : Hid (DS w2 w7 pb G' h (turnP (closeI lz (L : Int)) (J.take (u + 1)) cc)) := k7; have HJ7 : Hid (w7.ownsRow w2.heap.size 3 1 (.slice (some ⟨jg, 0, none⟩) j vc) j (natV J)) := r7 _ _ _ _ HJy.out; clear k7 r7))
          go_roundw
          case rel => exact ⟨u + 1, by omega, by go_num, HD7, HJ7⟩
          case measure => simp [intOf]; omega
        · have hun : u = j := by omega
          have HFin : Hid (turnP (closeI lz (L : Int)) (J.take u) cc = turnP (closeI lz (L : Int)) J cc) := by unfold Hid; rw [hun, ← HJL.out, List.take_length]
          clear hun
          go_wp2
          go_end0
          refine ⟨rfl, turnP (closeI lz (L : Int)) J cc, HEnd.out _ _ ?_, by rw [HQ.out]; exact HEN.out.wide (by omega)⟩
          have := HDy.out
          rw [HFin.out] at this
          exact this
end Go.Proofs.YtjbcapnpknbbaaaGreat.cmp
