/- compile.Prog. -/
import Derived.Test.YtjbcapnpknbbaaaGreatCmpGrp4
import Derived.Test.YtjbcapnpknbbaaaGreatLowPl3
import Derived.Test.YtjbcapnpknbbaaaGreatBndWidFromB
import Derived.Deep.RegionHeld3
import Derived.Deep.RegionWith
import Derived.Deep.LoopGhost
import Derived.Deep.CutBlock
import Derived.Lib.SliceRun
import Derived.Laws.CopyOwn
import Derived.Deep.WholeRow
set_option linter.unusedVariables false
set_option linter.unusedSimpArgs false
namespace Go.Proofs.YtjbcapnpknbbaaaGreat.cmp
open Go.RowKit nod
open Go.Proofs.YtjbcapnpknbbaaaGreat.wid (ofN)
open Go.Proofs.YtjbcapnpknbbaaaGreat.low (standP kidsP)
open Go.Proofs.YtjbcapnpknbbaaaGreat.rng (R RV info_parts)

open Go.Proofs.YtjbcapnpknbbaaaGreat.low (plN plL plL_all len_szL setsN setsL)
open Go.Proofs.YtjbcapnpknbbaaaGreat.wid (badN errW)
theorem zpr_one : (#[.slice none 0 0, .int .i64 0, .int .i64 0, .slice none 0 0, .bool false, .bool false, .bool false, .int .i64 0] : Array Value).all (·.oneCell') = true := by kernel_rfl
theorem infPr : (Tryz.prog.info? 34).map (·.size) = some 8 := by kernel_rfl
mutual
theorem gN_most : ∀ (t : Nd) (d : Int) (G : Gr), plN t d = true → 0 ≤ G.most → G.most ≤ 20 → 0 ≤ (gN t G).most ∧ (gN t G).most ≤ 20
  | .mk k m a b g n s ks, d, G, h, h0, h1 => by
    obtain ⟨hst, hk⟩ := plain_kids h
    have hm : 0 ≤ (meetG G k a n).most ∧ (meetG G k a n).most ≤ 20 := by
      unfold meetG
      split
      · exact ⟨h0, h1⟩
      · split
        · rename_i h9
          obtain ⟨rfl, h2⟩ := h9
          unfold standP at hst
          rw [if_neg (by decide), if_neg (by decide), if_neg (by decide), if_neg (by decide), if_pos rfl] at hst
          simp only [Bool.and_eq_true, wi_iff] at hst
          simp only
          omega
        · exact ⟨h0, h1⟩
    rw [gN]
    split
    · rename_i hkp
      exact gL_most ks (d + 1) _ (hk hkp) hm.1 hm.2
    · exact hm
theorem gL_most : ∀ (l : List Nd) (d : Int) (G : Gr), (∀ t ∈ l, plN t d = true) → 0 ≤ G.most → G.most ≤ 20 → 0 ≤ (gL l G).most ∧ (gL l G).most ≤ 20
  | [], d, G, _, h0, h1 => by rw [gL]; exact ⟨h0, h1⟩
  | t :: ts, d, G, h, h0, h1 => by
    rw [gL]
    have := gN_most t d G (h t (List.mem_cons_self ..)) h0 h1
    exact gL_most ts d _ (fun x hx => h x (List.mem_cons_of_mem _ hx)) this.1 this.2
end
/-- What Prog answers of a tree and a way of folding. -/
def errP (t : Nd) (f : Int) : Int :=
  if plN t 0 = false ∨ ¬ (0 ≤ f ∧ f ≤ 2) then 1 else if (gN t G0).twice = true ∨ (gN t G0).most < (gN t G0).back then 1 else if badN t = true then 191 else if 4997 < (pcN t).1.length then 190 else 0
theorem Bk.set8 {w : World} {r : Nat} {c0 c1 c2 c3 c4 c5 c6 c7 : Value} {t : TypeId} (h : Bk w r #[c0, c1, c2, c3, c4, c5, c6, c7] t) (v0 v1 v2 v3 v4 v5 v6 v7 : Value) :
    Bk ((((((((w.setCell ⟨r, 0, none⟩ v0).setCell ⟨r, 1, none⟩ v1).setCell ⟨r, 2, none⟩ v2).setCell ⟨r, 3, none⟩ v3).setCell ⟨r, 4, none⟩ v4).setCell ⟨r, 5, none⟩ v5).setCell ⟨r, 6, none⟩ v6).setCell ⟨r, 7, none⟩ v7) r #[v0, v1, v2, v3, v4, v5, v6, v7] t := by
  have := (((((((h.set 0 v0).set 1 v1).set 2 v2).set 3 v3).set 4 v4).set 5 v5).set 6 v6).set 7 v7
  simpa using this
theorem own_less {w : World} {B B' e size n : Nat} {v : Value} {xs : List Value} (h : w.ownsRow B e size v n xs) (hb : B' ≤ B) : w.ownsRow B' e size v n xs := by
  refine ⟨h.1, ?_⟩
  rcases h.2 with hn | ⟨g, cap, cur, rfl, hg, hgg, rest⟩
  · exact .inl hn
  · exact .inr ⟨g, cap, cur, rfl, Nat.le_trans hb hg, hgg, rest⟩
theorem QN.set8 {w : World} {lo r : Nat} {s : SV} {l : List R} (h : QN w lo s l) (hb : r < lo) (v0 v1 v2 v3 v4 v5 v6 v7 : Value) :
    QN ((((((((w.setCell ⟨r, 0, none⟩ v0).setCell ⟨r, 1, none⟩ v1).setCell ⟨r, 2, none⟩ v2).setCell ⟨r, 3, none⟩ v3).setCell ⟨r, 4, none⟩ v4).setCell ⟨r, 5, none⟩ v5).setCell ⟨r, 6, none⟩ v6).setCell ⟨r, 7, none⟩ v7) lo s l :=
  (((((((h.set hb 0 v0).set hb 1 v1).set hb 2 v2).set hb 3 v3).set hb 4 v4).set hb 5 v5).set hb 6 v6).set hb 7 v7
theorem Kp.set8 {w : World} {r : Nat} (v0 v1 v2 v3 v4 v5 v6 v7 : Value) :
    Kp (some r) w ((((((((w.setCell ⟨r, 0, none⟩ v0).setCell ⟨r, 1, none⟩ v1).setCell ⟨r, 2, none⟩ v2).setCell ⟨r, 3, none⟩ v3).setCell ⟨r, 4, none⟩ v4).setCell ⟨r, 5, none⟩ v5).setCell ⟨r, 6, none⟩ v6).setCell ⟨r, 7, none⟩ v7) :=
  ((((((((Kp.refl (some r) w).setCell (p := ⟨r, 0, none⟩) (.inr rfl) _).setCell (p := ⟨r, 1, none⟩) (.inr rfl) _).setCell (p := ⟨r, 2, none⟩) (.inr rfl) _).setCell (p := ⟨r, 3, none⟩) (.inr rfl) _).setCell (p := ⟨r, 4, none⟩) (.inr rfl) _).setCell (p := ⟨r, 5, none⟩) (.inr rfl) _).setCell (p := ⟨r, 6, none⟩) (.inr rfl) _).setCell (p := ⟨r, 7, none⟩) (.inr rfl) _
set_option maxRecDepth 10000 in
set_option maxHeartbeats 16000000 in
theorem within_any (n lo hi : Int) (w : World) : Calls Tryz.prog 38 #[.int .i64 n, .int .i64 lo, .int .i64 hi] w fun e w' => e = .returned (.bool (decide (lo ≤ n ∧ n ≤ hi))) ∧ w' = w := by
  by_cases h1 : lo ≤ n
  · by_cases h2 : n ≤ hi
    · rw [decide_eq_true (show lo ≤ n ∧ n ≤ hi from ⟨h1, h2⟩)]
      go_enter Tryz.func38, Tryz.ntmps38
      go_wp2
      go_ret
      exact ⟨rfl, rfl⟩
    · rw [decide_eq_false (show ¬ (lo ≤ n ∧ n ≤ hi) from fun h => h2 h.2)]
      go_enter Tryz.func38, Tryz.ntmps38
      go_wp2
      go_ret
      exact ⟨rfl, rfl⟩
  · rw [decide_eq_false (show ¬ (lo ≤ n ∧ n ≤ hi) from fun h => h1 h.1)]
    go_enter Tryz.func38, Tryz.ntmps38
    go_wp2
    go_ret
    exact ⟨rfl, rfl⟩
set_option maxRecDepth 10000 in
set_option maxHeartbeats 16000000 in
theorem canFold_any (o0 o1 o2 : Bool) (o3 : Int) (w : World) : Calls Tryz.prog 14 #[.agg #[.bool o0, .bool o1, .bool o2, .int .i64 o3]] w fun e w' => e = .returned (.bool (decide (0 ≤ o3 ∧ o3 ≤ 2))) ∧ Below w.heap.size w w' := by
  have C := within_any o3 0 2
  have HB : Hid (Below w.heap.size w (w.alloc (.cells #[.bool o0, .bool o1, .bool o2, .int .i64 o3] 27))) := (Below.refl _ w).alloc (Nat.le_refl _) _
  go_enter Tryz.func14, Tryz.ntmps14
  go_wp2_with (go_at_call 38; refine (C _).mono ?_; rintro e w2 ⟨rfl, rfl⟩; clear C)
  go_ret
  exact ⟨by rw [Bool.decide_and]; rfl, HB.out⟩
set_option maxRecDepth 10000 in
set_option maxHeartbeats 16000000 in
theorem prog_any (t : Nd) (v : Value) (o0 o1 o2 : Bool) (o3 : Int) (w : World) (hv : NV w.heap.size w t v) (hsets : setsN t) (hsz : t.sz ≤ 900) :
    Calls Tryz.prog 7 #[v, .agg #[.bool o0, .bool o1, .bool o2, .int .i64 o3]] w fun e w' => Below w.heap.size w w' ∧ ((¬ errP t o3 = 0 ∧ e = .returned (.tuple #[.agg #[.slice none 0 0, .int .i64 0, .int .i64 0, .slice none 0 0, .bool false, .bool false, .bool false, .int .i64 0], .int .i64 (errP t o3)])) ∨ (errP t o3 = 0 ∧ ∃ (q : Pp) (na : Option Addr) (mn nc : Nat), (gN t G0).most = mn ∧ mn ≤ 20 ∧ e = .returned (.tuple #[.agg #[.slice q.ka q.kn q.kc, .int .i64 mn, .int .i64 q.p.2, .slice na (mn + 1) nc, .bool o0, .bool o1, .bool o2, .int .i64 o3], .int .i64 0]) ∧ q.p.1.length = q.kn ∧ CR w' q.ka q.p.1 ∧ RL (QN w' w.heap.size) q.p.1 (prN t).1 ∧ q.p.2 = (prN t).2 ∧ (q.ka = none → q.kc = 0) ∧ w'.ownsRow w.heap.size 9 1 (.slice na (mn + 1) nc) (mn + 1) (((gN t G0).names.take (mn + 1)).map Value.string))) := by
  obtain ⟨k, m, a, b, g, s, st, ks, sa, sc, ao, cap, hT, rfl, _⟩ := hv.open
  generalize st.length = sl at *
  generalize ks.length = nk at *
  have HBW : Hid (Below w.heap.size w (((w.alloc (.cells #[.int .i64 k, .int .i64 m, .int .i64 a, .int .i64 b, .bool g, .string s, .slice sa sl sc, .slice ao nk cap] 25)).alloc (.cells #[.bool o0, .bool o1, .bool o2, .int .i64 o3] 27)).alloc (.cells #[.slice none 0 0, .int .i64 0, .int .i64 0, .slice none 0 0, .bool false, .bool false, .bool false, .int .i64 0] 34))) := (below2 _ _ _).alloc (by simp; omega) _
  have HX : Hid (Bk (((w.alloc (.cells #[.int .i64 k, .int .i64 m, .int .i64 a, .int .i64 b, .bool g, .string s, .slice sa sl sc, .slice ao nk cap] 25)).alloc (.cells #[.bool o0, .bool o1, .bool o2, .int .i64 o3] 27)).alloc (.cells #[.slice none 0 0, .int .i64 0, .int .i64 0, .slice none 0 0, .bool false, .bool false, .bool false, .int .i64 0] 34)) w.heap.size #[.int .i64 k, .int .i64 m, .int .i64 a, .int .i64 b, .bool g, .string s, .slice sa sl sc, .slice ao nk cap] 25) := ((Bk.new w _ _).past _).past _
  have HO : Hid (Bk (((w.alloc (.cells #[.int .i64 k, .int .i64 m, .int .i64 a, .int .i64 b, .bool g, .string s, .slice sa sl sc, .slice ao nk cap] 25)).alloc (.cells #[.bool o0, .bool o1, .bool o2, .int .i64 o3] 27)).alloc (.cells #[.slice none 0 0, .int .i64 0, .int .i64 0, .slice none 0 0, .bool false, .bool false, .bool false, .int .i64 0] 34)) (w.heap.size + 1) #[.bool o0, .bool o1, .bool o2, .int .i64 o3] 27) := bk2.past _
  have HR : Hid (Bk (((w.alloc (.cells #[.int .i64 k, .int .i64 m, .int .i64 a, .int .i64 b, .bool g, .string s, .slice sa sl sc, .slice ao nk cap] 25)).alloc (.cells #[.bool o0, .bool o1, .bool o2, .int .i64 o3] 27)).alloc (.cells #[.slice none 0 0, .int .i64 0, .int .i64 0, .slice none 0 0, .bool false, .bool false, .bool false, .int .i64 0] 34)) (w.heap.size + 1 + 1) #[.slice none 0 0, .int .i64 0, .int .i64 0, .slice none 0 0, .bool false, .bool false, .bool false, .int .i64 0] 34) := by
    have := Bk.new ((w.alloc (.cells #[.int .i64 k, .int .i64 m, .int .i64 a, .int .i64 b, .bool g, .string s, .slice sa sl sc, .slice ao nk cap] 25)).alloc (.cells #[.bool o0, .bool o1, .bool o2, .int .i64 o3] 27)) #[.slice none 0 0, .int .i64 0, .int .i64 0, .slice none 0 0, .bool false, .bool false, .bool false, .int .i64 0] 34
    unfold Hid; simpa using this
  have hz : ((((w.alloc (.cells #[.int .i64 k, .int .i64 m, .int .i64 a, .int .i64 b, .bool g, .string s, .slice sa sl sc, .slice ao nk cap] 25)).alloc (.cells #[.bool o0, .bool o1, .bool o2, .int .i64 o3] 27)).alloc (.cells #[.slice none 0 0, .int .i64 0, .int .i64 0, .slice none 0 0, .bool false, .bool false, .bool false, .int .i64 0] 34))).heap.size = w.heap.size + 1 + 1 + 1 := by simp
  have NVW : Hid (∀ W, Below w.heap.size w W → NV W.heap.size W t (.agg #[.int .i64 k, .int .i64 m, .int .i64 a, .int .i64 b, .bool g, .string s, .slice sa sl sc, .slice ao nk cap])) := fun W h => (hv.keep h).wide h.size
  have CP := low.plain_any t (.agg #[.int .i64 k, .int .i64 m, .int .i64 a, .int .i64 b, .bool g, .string s, .slice sa sl sc, .slice ao nk cap]) (((w.alloc (.cells #[.int .i64 k, .int .i64 m, .int .i64 a, .int .i64 b, .bool g, .string s, .slice sa sl sc, .slice ao nk cap] 25)).alloc (.cells #[.bool o0, .bool o1, .bool o2, .int .i64 o3] 27)).alloc (.cells #[.slice none 0 0, .int .i64 0, .int .i64 0, .slice none 0 0, .bool false, .bool false, .bool false, .int .i64 0] 34)) (NVW.out _ HBW.out) (by omega)
  have CF := canFold_any o0 o1 o2 o3
  obtain ⟨w1, hw1⟩ : ∃ w1, (((w.alloc (.cells #[.int .i64 k, .int .i64 m, .int .i64 a, .int .i64 b, .bool g, .string s, .slice sa sl sc, .slice ao nk cap] 25)).alloc (.cells #[.bool o0, .bool o1, .bool o2, .int .i64 o3] 27)).alloc (.cells #[.slice none 0 0, .int .i64 0, .int .i64 0, .slice none 0 0, .bool false, .bool false, .bool false, .int .i64 0] 34)) = w1 := ⟨_, rfl⟩
  have HW1 : Hid ((((w.alloc (.cells #[.int .i64 k, .int .i64 m, .int .i64 a, .int .i64 b, .bool g, .string s, .slice sa sl sc, .slice ao nk cap] 25)).alloc (.cells #[.bool o0, .bool o1, .bool o2, .int .i64 o3] 27)).alloc (.cells #[.slice none 0 0, .int .i64 0, .int .i64 0, .slice none 0 0, .bool false, .bool false, .bool false, .int .i64 0] 34)) = w1) := hw1
  rw [hw1] at HBW HX HO HR hz CP
  clear hw1 hv hT
  obtain ⟨E, hE⟩ : ∃ E, errP t o3 = E := ⟨_, rfl⟩
  rw [hE]
  have HE : Hid (errP t o3 = E) := hE
  clear hE
  obtain ⟨G1, hG1⟩ : ∃ G1, gN t G0 = G1 := ⟨_, rfl⟩
  rw [hG1]
  have HG1 : Hid (gN t G0 = G1) := hG1
  clear hG1
  go_enter Tryz.func7, Tryz.ntmps7
  go_upto_region 1 with fail
  rw [HW1.out]
  have x0 := (HX.out).cell 0 (u := .int .i64 k) rfl; have x1 := (HX.out).cell 1 (u := .int .i64 m) rfl; have x2 := (HX.out).cell 2 (u := .int .i64 a) rfl; have x3 := (HX.out).cell 3 (u := .int .i64 b) rfl; have x4 := (HX.out).cell 4 (u := .bool g) rfl; have x5 := (HX.out).cell 5 (u := .string s) rfl; have x6 := (HX.out).cell 6 (u := .slice sa sl sc) rfl; have x7 := (HX.out).cell 7 (u := .slice ao nk cap) rfl
  cases hp : plN t 0 with
  | false =>
    rw [hp] at CP
    obtain rfl : E = 1 := by rw [← HE.out]; unfold errP; rw [if_pos (.inl hp)]
    clear CF NVW HE
    go_wp2_with (first
      | (go_at_call 13; refine CP.mono ?_; rintro e w2 ⟨rfl, b2⟩; have HB2 : Hid (Below w.heap.size w w2) := HBW.out.trans (below_less b2 (by omega)); have HR2 : Hid (Bk w2 (w.heap.size + 1 + 1) #[.slice none 0 0, .int .i64 0, .int .i64 0, .slice none 0 0, .bool false, .bool false, .bool false, .int .i64 0] 34) := HR.out.on b2; have HO2 : Hid (Bk w2 (w.heap.size + 1) #[.bool o0, .bool o1, .bool o2, .int .i64 o3] 27) := HO.out.on b2; have HX2 : Hid (Bk w2 w.heap.size #[.int .i64 k, .int .i64 m, .int .i64 a, .int .i64 b, .bool g, .string s, .slice sa sl sc, .slice ao nk cap] 25) := HX.out.on b2; have y0 := (HO2.out).cell 0 (u := .bool o0) rfl; have y1 := (HO2.out).cell 1 (u := .bool o1) rfl; have y2 := (HO2.out).cell 2 (u := .bool o2) rfl; have y3 := (HO2.out).cell 3 (u := .int .i64 o3) rfl; clear b2)
      | (refine wpList_store_row rfl 34 _ _ rfl (w.heap.size + 1 + 1) #[.slice none 0 0, .int .i64 0, .int .i64 0, .slice none 0 0, .bool false, .bool false, .bool false, .int .i64 0] rfl rfl _ _ HR2.out infPr rfl zpr_one ?_))
    refine bodyPost_ret (results_row_tmp Tryz.results7 _ _ (w.heap.size + 1 + 1) _ #[.slice none 0 0, .int .i64 0, .int .i64 0, .slice none 0 0, .bool false, .bool false, .bool false, .int .i64 0] _ _ rfl (setRow_heap _ _ _ _ _ _ HR2.out) Tryz.underlying34 rfl infPr) rfl ?_
    first | exact ⟨below_setRow (HB2.out) (by omega) _, .inl ⟨by decide, rfl⟩⟩ | exact ⟨below_setRow (HB2.out) (by omega) _, rfl⟩
  | true =>
    rw [hp] at CP
    by_cases hf : 0 ≤ o3 ∧ o3 ≤ 2
    case neg =>
      rw [decide_eq_false hf] at CF
      obtain rfl : E = 1 := by rw [← HE.out]; unfold errP; rw [if_pos (.inr hf)]
      clear NVW HE hf
      go_wp2_with (first
        | (go_at_call 13; refine CP.mono ?_; rintro e w2 ⟨rfl, b2⟩; have HB2 : Hid (Below w.heap.size w w2) := HBW.out.trans (below_less b2 (by omega)); have HR2 : Hid (Bk w2 (w.heap.size + 1 + 1) #[.slice none 0 0, .int .i64 0, .int .i64 0, .slice none 0 0, .bool false, .bool false, .bool false, .int .i64 0] 34) := HR.out.on b2; have HO2 : Hid (Bk w2 (w.heap.size + 1) #[.bool o0, .bool o1, .bool o2, .int .i64 o3] 27) := HO.out.on b2; have HX2 : Hid (Bk w2 w.heap.size #[.int .i64 k, .int .i64 m, .int .i64 a, .int .i64 b, .bool g, .string s, .slice sa sl sc, .slice ao nk cap] 25) := HX.out.on b2; have y0 := (HO2.out).cell 0 (u := .bool o0) rfl; have y1 := (HO2.out).cell 1 (u := .bool o1) rfl; have y2 := (HO2.out).cell 2 (u := .bool o2) rfl; have y3 := (HO2.out).cell 3 (u := .int .i64 o3) rfl; clear b2)
        | (go_at_call 14; refine (CF _).mono ?_; rintro e w3 ⟨rfl, b3⟩; have HB3 : Hid (Below w.heap.size w w3) := HB2.out.trans (below_less b3 HB2.out.size); have HR3 : Hid (Bk w3 (w.heap.size + 1 + 1) #[.slice none 0 0, .int .i64 0, .int .i64 0, .slice none 0 0, .bool false, .bool false, .bool false, .int .i64 0] 34) := HR2.out.on b3; have HO3 : Hid (Bk w3 (w.heap.size + 1) #[.bool o0, .bool o1, .bool o2, .int .i64 o3] 27) := HO2.out.on b3; have HX3 : Hid (Bk w3 w.heap.size #[.int .i64 k, .int .i64 m, .int .i64 a, .int .i64 b, .bool g, .string s, .slice sa sl sc, .slice ao nk cap] 25) := HX2.out.on b3; clear b3)
        | (refine wpList_store_row rfl 34 _ _ rfl (w.heap.size + 1 + 1) #[.slice none 0 0, .int .i64 0, .int .i64 0, .slice none 0 0, .bool false, .bool false, .bool false, .int .i64 0] rfl rfl _ _ HR3.out infPr rfl zpr_one ?_))
      refine bodyPost_ret (results_row_tmp Tryz.results7 _ _ (w.heap.size + 1 + 1) _ #[.slice none 0 0, .int .i64 0, .int .i64 0, .slice none 0 0, .bool false, .bool false, .bool false, .int .i64 0] _ _ rfl (setRow_heap _ _ _ _ _ _ HR3.out) Tryz.underlying34 rfl infPr) rfl ?_
      first | exact ⟨below_setRow (HB3.out) (by omega) _, .inl ⟨by decide, rfl⟩⟩ | exact ⟨below_setRow (HB3.out) (by omega) _, rfl⟩
    case pos =>
      rw [decide_eq_true hf] at CF
      have HE2 : Hid ((if G1.twice = true ∨ G1.most < G1.back then 1 else if badN t = true then 191 else if 4997 < (pcN t).1.length then 190 else 0) = E) := by
        have := HE.out; unfold errP at this; rw [if_neg (by rw [hp]; exact fun h => h.elim (fun h => by cases h) (fun h => h hf)), HG1.out] at this; exact this
      have HM : Hid (0 ≤ G1.most ∧ G1.most ≤ 20) := HG1.out ▸ gN_most t 0 G0 hp (by decide) (by decide)
      have CG : Hid (∀ W, Below w.heap.size w W → Calls Tryz.prog 15 #[.agg #[.int .i64 k, .int .i64 m, .int .i64 a, .int .i64 b, .bool g, .string s, .slice sa sl sc, .slice ao nk cap]] W fun e w' => e = .returned (.agg (gcells G1).toArray) ∧ G1.there.length = 21 ∧ G1.names.length = 21 ∧ Below W.heap.size W w') := fun W h => HG1.out ▸ gOf_any t _ 0 W.heap.size W (NVW.out W h) (Nat.le_refl _) hp hsz
      have HPL : Hid (plN t 0 = true) := hp
      clear HE hf hp
      clear HG1
      go_upto_region 3 with (first
        | (go_at_call 13; refine CP.mono ?_; rintro e w2 ⟨rfl, b2⟩; have HB2 : Hid (Below w.heap.size w w2) := HBW.out.trans (below_less b2 (by omega)); have HR2 : Hid (Bk w2 (w.heap.size + 1 + 1) #[.slice none 0 0, .int .i64 0, .int .i64 0, .slice none 0 0, .bool false, .bool false, .bool false, .int .i64 0] 34) := HR.out.on b2; have HO2 : Hid (Bk w2 (w.heap.size + 1) #[.bool o0, .bool o1, .bool o2, .int .i64 o3] 27) := HO.out.on b2; have HX2 : Hid (Bk w2 w.heap.size #[.int .i64 k, .int .i64 m, .int .i64 a, .int .i64 b, .bool g, .string s, .slice sa sl sc, .slice ao nk cap] 25) := HX.out.on b2; have y0 := (HO2.out).cell 0 (u := .bool o0) rfl; have y1 := (HO2.out).cell 1 (u := .bool o1) rfl; have y2 := (HO2.out).cell 2 (u := .bool o2) rfl; have y3 := (HO2.out).cell 3 (u := .int .i64 o3) rfl; clear b2)
        | (go_at_call 14; refine (CF _).mono ?_; rintro e w3 ⟨rfl, b3⟩; have HB3 : Hid (Below w.heap.size w w3) := HB2.out.trans (below_less b3 HB2.out.size); have HR3 : Hid (Bk w3 (w.heap.size + 1 + 1) #[.slice none 0 0, .int .i64 0, .int .i64 0, .slice none 0 0, .bool false, .bool false, .bool false, .int .i64 0] 34) := HR2.out.on b3; have HO3 : Hid (Bk w3 (w.heap.size + 1) #[.bool o0, .bool o1, .bool o2, .int .i64 o3] 27) := HO2.out.on b3; have HX3 : Hid (Bk w3 w.heap.size #[.int .i64 k, .int .i64 m, .int .i64 a, .int .i64 b, .bool g, .string s, .slice sa sl sc, .slice ao nk cap] 25) := HX2.out.on b3; clear b3))
      clear x0 x1 x2 x3 x4 x5 x6 x7 y0 y1 y2 y3 HB2 HR2 HO2 HX2 HBW HX HO HR HW1
      have x0 := (HX3.out).cell 0 (u := .int .i64 k) rfl; have x1 := (HX3.out).cell 1 (u := .int .i64 m) rfl; have x2 := (HX3.out).cell 2 (u := .int .i64 a) rfl; have x3 := (HX3.out).cell 3 (u := .int .i64 b) rfl; have x4 := (HX3.out).cell 4 (u := .bool g) rfl; have x5 := (HX3.out).cell 5 (u := .string s) rfl; have x6 := (HX3.out).cell 6 (u := .slice sa sl sc) rfl; have x7 := (HX3.out).cell 7 (u := .slice ao nk cap) rfl
      go_upto_region 4 with (first
        | (go_at_call 15; refine (CG.out w3 HB3.out).mono ?_; rintro e w4 ⟨rfl, l1, l2, b4⟩; have HL4 : Hid (G1.there.length = 21 ∧ G1.names.length = 21) := ⟨l1, l2⟩; have HB4 : Hid (Below w3.heap.size w3 w4) := b4; have hsz4 : (Tryz.prog.info? 51).map (·.size) = some (gcells G1).toArray.size := (by rw [gcells_len l1 l2]; exact infG); clear b4 l1 l2)
        | (refine wpList_store_row rfl 51 _ _ rfl w4.heap.size (gcells G1).toArray rfl rfl _ _ (Bk.new w4 _ _) hsz4 (by rw [gcells_len HL4.out.1 HL4.out.2]; rfl) (gcells_one G1) ?_))
      rw [World.setRow_alloc_new]
      have hs3 := HB3.out.size
      have hs4 := HB4.out.size
      have hX3 := HX3.out.lt
      have hR3 := HR3.out.lt
      have HB45 : Hid (Below w3.heap.size w3 (w4.alloc (.cells (gcells G1).toArray 51))) := HB4.out.alloc hs4 _
      have HB5 : Hid (Below w.heap.size w (w4.alloc (.cells (gcells G1).toArray 51))) := HB3.out.trans (below_less HB45.out hs3)
      have HR5 : Hid (Bk (w4.alloc (.cells (gcells G1).toArray 51)) (w.heap.size + 1 + 1) #[.slice none 0 0, .int .i64 0, .int .i64 0, .slice none 0 0, .bool false, .bool false, .bool false, .int .i64 0] 34) := HR3.out.on HB45.out
      have HO5 : Hid (Bk (w4.alloc (.cells (gcells G1).toArray 51)) (w.heap.size + 1) #[.bool o0, .bool o1, .bool o2, .int .i64 o3] 27) := HO3.out.on HB45.out
      have HX5 : Hid (Bk (w4.alloc (.cells (gcells G1).toArray 51)) w.heap.size #[.int .i64 k, .int .i64 m, .int .i64 a, .int .i64 b, .bool g, .string s, .slice sa sl sc, .slice ao nk cap] 25) := HX3.out.on HB45.out
      have HG5 : Hid (GB (w4.alloc (.cells (gcells G1).toArray 51)) w4.heap.size G1) := ⟨Bk.new w4 _ _, HL4.out.1, HL4.out.2⟩
      have hgb5 : w4.heap.size < (w4.alloc (.cells (gcells G1).toArray 51)).heap.size := by simp
      have hgb : w.heap.size + 1 + 1 < w4.heap.size := by omega
      generalize w4.alloc (.cells (gcells G1).toArray 51) = w5 at *
      generalize w4.heap.size = gb at *
      clear x0 x1 x2 x3 x4 x5 x6 x7 HB45 HB4 HB3 HR3 HO3 HX3 hsz4 HL4 CG CP CF hs4 hX3 hR3
      obtain ⟨mo, bk, tw, th, na⟩ := G1
      simp only at *
      have x0 := HG5.out.cell 0 (u := .int .i64 mo) rfl
      have x1 := HG5.out.cell 1 (u := .int .i64 bk) rfl
      have x2 := HG5.out.cell 2 (u := .bool tw) rfl
      cases tw with
      | true =>
        obtain rfl : E = 1 := by rw [← HE2.out, if_pos (.inl rfl)]
        clear HE2 NVW HPL HM
        go_wp2_with (refine wpList_store_row rfl 34 _ _ rfl (w.heap.size + 1 + 1) #[.slice none 0 0, .int .i64 0, .int .i64 0, .slice none 0 0, .bool false, .bool false, .bool false, .int .i64 0] rfl rfl _ _ HR5.out infPr rfl zpr_one ?_)
        refine bodyPost_ret (results_row_tmp Tryz.results7 _ _ (w.heap.size + 1 + 1) _ #[.slice none 0 0, .int .i64 0, .int .i64 0, .slice none 0 0, .bool false, .bool false, .bool false, .int .i64 0] _ _ rfl (setRow_heap _ _ _ _ _ _ HR5.out) Tryz.underlying34 rfl infPr) rfl ?_
        first | exact ⟨below_setRow (HB5.out) (by omega) _, .inl ⟨by decide, rfl⟩⟩ | exact ⟨below_setRow (HB5.out) (by omega) _, rfl⟩
      | false =>
        by_cases hb : mo < bk
        case pos =>
          obtain rfl : E = 1 := by rw [← HE2.out, if_pos (.inr hb)]
          clear HE2 NVW HPL HM
          go_wp2_with (refine wpList_store_row rfl 34 _ _ rfl (w.heap.size + 1 + 1) #[.slice none 0 0, .int .i64 0, .int .i64 0, .slice none 0 0, .bool false, .bool false, .bool false, .int .i64 0] rfl rfl _ _ HR5.out infPr rfl zpr_one ?_)
          refine bodyPost_ret (results_row_tmp Tryz.results7 _ _ (w.heap.size + 1 + 1) _ #[.slice none 0 0, .int .i64 0, .int .i64 0, .slice none 0 0, .bool false, .bool false, .bool false, .int .i64 0] _ _ rfl (setRow_heap _ _ _ _ _ _ HR5.out) Tryz.underlying34 rfl infPr) rfl ?_
          first | exact ⟨below_setRow (HB5.out) (by omega) _, .inl ⟨by decide, rfl⟩⟩ | exact ⟨below_setRow (HB5.out) (by omega) _, rfl⟩
        case neg =>
          have HE3 : Hid ((if badN t = true then 191 else if 4997 < (pcN t).1.length then 190 else 0) = E) := by
            have := HE2.out; rw [if_neg (fun h => h.elim (fun h => by cases h) hb)] at this; exact this
          have CB := wid.bound_any t (.agg #[.int .i64 k, .int .i64 m, .int .i64 a, .int .i64 b, .bool g, .string s, .slice sa sl sc, .slice ao nk cap]) w5 (NVW.out _ HB5.out) (by omega)
          clear HE2
          go_upto_region 6 with fail
          have x0 := (HX5.out).cell 0 (u := .int .i64 k) rfl; have x1 := (HX5.out).cell 1 (u := .int .i64 m) rfl; have x2 := (HX5.out).cell 2 (u := .int .i64 a) rfl; have x3 := (HX5.out).cell 3 (u := .int .i64 b) rfl; have x4 := (HX5.out).cell 4 (u := .bool g) rfl; have x5 := (HX5.out).cell 5 (u := .string s) rfl; have x6 := (HX5.out).cell 6 (u := .slice sa sl sc) rfl; have x7 := (HX5.out).cell 7 (u := .slice ao nk cap) rfl
          cases hbad : badN t with
          | true =>
            rw [hbad, show errW true = 191 from rfl] at CB
            obtain rfl : E = 191 := by rw [← HE3.out, if_pos hbad]
            clear HE3 NVW HPL HM
            go_wp2_with (first
              | (go_at_call 16; refine CB.mono ?_; rintro e w6 ⟨rfl, b6⟩; have HB6 : Hid (Below w.heap.size w w6) := HB5.out.trans (below_less b6 HB5.out.size); have HR6 : Hid (Bk w6 (w.heap.size + 1 + 1) #[.slice none 0 0, .int .i64 0, .int .i64 0, .slice none 0 0, .bool false, .bool false, .bool false, .int .i64 0] 34) := HR5.out.on b6; have HO6 : Hid (Bk w6 (w.heap.size + 1) #[.bool o0, .bool o1, .bool o2, .int .i64 o3] 27) := HO5.out.on b6; have HX6 : Hid (Bk w6 w.heap.size #[.int .i64 k, .int .i64 m, .int .i64 a, .int .i64 b, .bool g, .string s, .slice sa sl sc, .slice ao nk cap] 25) := HX5.out.on b6; have HG6 : Hid (GB w6 gb ⟨mo, bk, false, th, na⟩) := HG5.out.on b6; have hs6 : w5.heap.size ≤ w6.heap.size := b6.size; clear b6)
              | (refine wpList_store_row rfl 34 _ _ rfl (w.heap.size + 1 + 1) #[.slice none 0 0, .int .i64 0, .int .i64 0, .slice none 0 0, .bool false, .bool false, .bool false, .int .i64 0] rfl rfl _ _ HR6.out infPr rfl zpr_one ?_))
            refine bodyPost_ret (results_row_tmp Tryz.results7 _ _ (w.heap.size + 1 + 1) _ #[.slice none 0 0, .int .i64 0, .int .i64 0, .slice none 0 0, .bool false, .bool false, .bool false, .int .i64 0] _ _ rfl (setRow_heap _ _ _ _ _ _ HR6.out) Tryz.underlying34 rfl infPr) rfl ?_
            first | exact ⟨below_setRow (HB6.out) (by omega) _, .inl ⟨by decide, rfl⟩⟩ | exact ⟨below_setRow (HB6.out) (by omega) _, rfl⟩
          | false =>
            rw [hbad, show errW false = 0 from rfl] at CB
            have HE4 : Hid ((if 4997 < (pcN t).1.length then 190 else 0) = E) := by
              have := HE3.out; rw [if_neg (by rw [hbad]; exact fun h => by cases h)] at this; exact this
            clear HE3
            go_upto_region 9 with (first
              | (go_at_call 16; refine CB.mono ?_; rintro e w6 ⟨rfl, b6⟩; have HB6 : Hid (Below w.heap.size w w6) := HB5.out.trans (below_less b6 HB5.out.size); have HR6 : Hid (Bk w6 (w.heap.size + 1 + 1) #[.slice none 0 0, .int .i64 0, .int .i64 0, .slice none 0 0, .bool false, .bool false, .bool false, .int .i64 0] 34) := HR5.out.on b6; have HO6 : Hid (Bk w6 (w.heap.size + 1) #[.bool o0, .bool o1, .bool o2, .int .i64 o3] 27) := HO5.out.on b6; have HX6 : Hid (Bk w6 w.heap.size #[.int .i64 k, .int .i64 m, .int .i64 a, .int .i64 b, .bool g, .string s, .slice sa sl sc, .slice ao nk cap] 25) := HX5.out.on b6; have HG6 : Hid (GB w6 gb ⟨mo, bk, false, th, na⟩) := HG5.out.on b6; have hs6 : w5.heap.size ≤ w6.heap.size := b6.size; clear b6))
            clear x0 x1 x2 x3 x4 x5 x6 x7
            have x0 := (HX6.out).cell 0 (u := .int .i64 k) rfl; have x1 := (HX6.out).cell 1 (u := .int .i64 m) rfl; have x2 := (HX6.out).cell 2 (u := .int .i64 a) rfl; have x3 := (HX6.out).cell 3 (u := .int .i64 b) rfl; have x4 := (HX6.out).cell 4 (u := .bool g) rfl; have x5 := (HX6.out).cell 5 (u := .string s) rfl; have x6 := (HX6.out).cell 6 (u := .slice sa sl sc) rfl; have x7 := (HX6.out).cell 7 (u := .slice ao nk cap) rfl
            have CM0 := made_any t (.agg #[.int .i64 k, .int .i64 m, .int .i64 a, .int .i64 b, .bool g, .string s, .slice sa sl sc, .slice ao nk cap]) 0 w6 (NVW.out _ HB6.out) HPL.out hsets hsz
            by_cases hlen : 4997 < (pcN t).1.length
            case pos =>
              obtain rfl : E = 190 := by rw [← HE4.out, if_pos hlen]
              have CM : Calls Tryz.prog 17 #[.agg #[.int .i64 k, .int .i64 m, .int .i64 a, .int .i64 b, .bool g, .string s, .slice sa sl sc, .slice ao nk cap]] w6 fun e w' => e = .returned (.tuple #[.agg #[.slice none 0 0, .int .i64 0], .bool false]) ∧ Below w6.heap.size w6 w' := CM0.mono fun e w' h => by
                rcases h.2 with h2 | h2
                · exact ⟨h2.2, h.1⟩
                · have := h2.1; omega
              clear HE4 NVW HPL HM CM0 CB
              go_wp2_with (first
                | (go_at_call 17; refine CM.mono ?_; rintro e w7 ⟨rfl, b7⟩; have HB7 : Hid (Below w.heap.size w w7) := HB6.out.trans (below_less b7 HB6.out.size); have HR7 : Hid (Bk w7 (w.heap.size + 1 + 1) #[.slice none 0 0, .int .i64 0, .int .i64 0, .slice none 0 0, .bool false, .bool false, .bool false, .int .i64 0] 34) := HR6.out.on b7; have HO7 : Hid (Bk w7 (w.heap.size + 1) #[.bool o0, .bool o1, .bool o2, .int .i64 o3] 27) := HO6.out.on b7; have HG7 : Hid (GB w7 gb ⟨mo, bk, false, th, na⟩) := HG6.out.on b7; have hs7 : w6.heap.size ≤ w7.heap.size := b7.size; clear b7)
                | (refine wpList_store_row rfl 34 _ _ rfl (w.heap.size + 1 + 1) #[.slice none 0 0, .int .i64 0, .int .i64 0, .slice none 0 0, .bool false, .bool false, .bool false, .int .i64 0] rfl rfl _ _ (HR7.out.past _) infPr rfl zpr_one ?_))
              refine bodyPost_ret (results_row_tmp Tryz.results7 _ _ (w.heap.size + 1 + 1) _ #[.slice none 0 0, .int .i64 0, .int .i64 0, .slice none 0 0, .bool false, .bool false, .bool false, .int .i64 0] _ _ rfl (setRow_heap _ _ _ _ _ _ (HR7.out.past _)) Tryz.underlying34 rfl infPr) rfl ?_
              first | exact ⟨below_setRow (HB7.out.alloc HB7.out.size _) (by omega) _, .inl ⟨by decide, rfl⟩⟩ | exact ⟨below_setRow (HB7.out.alloc HB7.out.size _) (by omega) _, rfl⟩
            case neg =>
              obtain rfl : E = 0 := by rw [← HE4.out, if_neg hlen]
              have CM : Calls Tryz.prog 17 #[.agg #[.int .i64 k, .int .i64 m, .int .i64 a, .int .i64 b, .bool g, .string s, .slice sa sl sc, .slice ao nk cap]] w6 fun e w' => ∃ (q : Pp), e = .returned (.tuple #[.agg #[.slice q.ka q.kn q.kc, .int .i64 q.p.2], .bool true]) ∧ Hid (q.p.1.length = q.kn ∧ CR w' q.ka q.p.1 ∧ RL (QN w' w6.heap.size) q.p.1 (prN t).1 ∧ q.p.2 = (prN t).2 ∧ (q.ka = none → q.kc = 0) ∧ (∀ x, q.ka = some x → w6.heap.size ≤ x.block ∧ x.block < w'.heap.size)) ∧ Below w6.heap.size w6 w' := CM0.mono fun e w' h => by
                rcases h.2 with h2 | ⟨_, q, h2, h3⟩
                · exact (hlen h2.1).elim
                · exact ⟨q, h2, h3, h.1⟩
              clear HE4 NVW HPL CM0 CB
              go_upto_region 12 with (first
                | (go_at_call 17; refine CM.mono ?_; rintro e w7 ⟨q, rfl, HQ, b7⟩; have HB7 : Hid (Below w.heap.size w w7) := HB6.out.trans (below_less b7 HB6.out.size); have HR7 : Hid (Bk w7 (w.heap.size + 1 + 1) #[.slice none 0 0, .int .i64 0, .int .i64 0, .slice none 0 0, .bool false, .bool false, .bool false, .int .i64 0] 34) := HR6.out.on b7; have HO7 : Hid (Bk w7 (w.heap.size + 1) #[.bool o0, .bool o1, .bool o2, .int .i64 o3] 27) := HO6.out.on b7; have HG7 : Hid (GB w7 gb ⟨mo, bk, false, th, na⟩) := HG6.out.on b7; have hs7 : w6.heap.size ≤ w7.heap.size := b7.size; clear b7))
              have B78 : Below w7.heap.size w7 (w7.alloc (.cells #[.slice q.ka q.kn q.kc, .int .i64 q.p.2] 55)) := (Below.refl _ w7).alloc (Nat.le_refl _) _
              have HB8 : Hid (Below w.heap.size w (w7.alloc (.cells #[.slice q.ka q.kn q.kc, .int .i64 q.p.2] 55))) := HB7.out.trans (below_less B78 HB7.out.size)
              have HP8 : Hid (Bk (w7.alloc (.cells #[.slice q.ka q.kn q.kc, .int .i64 q.p.2] 55)) w7.heap.size #[.slice q.ka q.kn q.kc, .int .i64 q.p.2] 55) := Bk.new w7 _ _
              have HR8 : Hid (Bk (w7.alloc (.cells #[.slice q.ka q.kn q.kc, .int .i64 q.p.2] 55)) (w.heap.size + 1 + 1) #[.slice none 0 0, .int .i64 0, .int .i64 0, .slice none 0 0, .bool false, .bool false, .bool false, .int .i64 0] 34) := HR7.out.past _
              have HO8 : Hid (Bk (w7.alloc (.cells #[.slice q.ka q.kn q.kc, .int .i64 q.p.2] 55)) (w.heap.size + 1) #[.bool o0, .bool o1, .bool o2, .int .i64 o3] 27) := HO7.out.past _
              obtain ⟨mn, hmn⟩ := Int.eq_ofNat_of_zero_le HM.out.1
              have hmn2 : mn ≤ 20 := by have := HM.out.2; omega
              subst hmn
              have HG8 : Hid (GB (w7.alloc (.cells #[.slice q.ka q.kn q.kc, .int .i64 q.p.2] 55)) gb ⟨(mn : Int), bk, false, th, na⟩) := HG7.out.past _
              have HQ8 : Hid (q.p.1.length = q.kn ∧ CR (w7.alloc (.cells #[.slice q.ka q.kn q.kc, .int .i64 q.p.2] 55)) q.ka q.p.1 ∧ RL (QN (w7.alloc (.cells #[.slice q.ka q.kn q.kc, .int .i64 q.p.2] 55)) w6.heap.size) q.p.1 (prN t).1 ∧ q.p.2 = (prN t).2 ∧ (q.ka = none → q.kc = 0) ∧ (∀ x, q.ka = some x → w6.heap.size ≤ x.block ∧ x.block < w7.heap.size)) :=
                ⟨HQ.out.1, HQ.out.2.1.keep (fun b' _ _ _ hl => B78.block b' hl), HQ.out.2.2.1.imp fun s l h => h.on B78, HQ.out.2.2.2⟩
              have hs8 : (w7.alloc (.cells #[.slice q.ka q.kn q.kc, .int .i64 q.p.2] 55)).heap.size = w7.heap.size + 1 := by simp
              have hb5 := hgb5
              clear B78 HB7 HR7 HO7 HG7 HQ HR6 HO6 HG6 HX6 HB6 HR5 HO5 HG5 HX5 HB5 HM x0 x1 x2 x3 x4 x5 x6 x7
              generalize (w7.alloc (.cells #[.slice q.ka q.kn q.kc, .int .i64 q.p.2] 55)) = w8 at *
              have CL : Calls Tryz.prog 18 #[.pointer (some ⟨gb, 0, none⟩)] w8.drew fun e w' => ∃ (sna : Option Addr) (snc : Nat), e = .returned (.slice sna (mn + 1) snc) ∧ w'.ownsRow w8.heap.size 9 1 (.slice sna (mn + 1) snc) (mn + 1) ((na.take (mn + 1)).map Value.string) ∧ Below w8.heap.size w8 w' :=
                (list_any gb ⟨(mn : Int), bk, false, th, na⟩ mn w8.drew (HG8.out.on ((Below.refl _ _).drew)) rfl hmn2).mono (by
                  rintro e w' ⟨v', rfl, ho, b⟩
                  have b2 : Below w8.heap.size w8 w' := ((Below.refl _ _).drew).trans b
                  rcases ho.2 with ⟨_, h0⟩ | ⟨g', cp, cur, rfl, _⟩
                  · omega
                  · exact ⟨_, _, rfl, ho, b2⟩)
              have p0 := HP8.out.cell 0 (u := .slice q.ka q.kn q.kc) rfl
              have p1 := HP8.out.cell 1 (u := .int .i64 q.p.2) rfl
              have x0 := HG8.out.cell 0 (u := .int .i64 mn) rfl
              have y0 := (HO8.out).cell 0 (u := .bool o0) rfl
              have y1 := (HO8.out).cell 1 (u := .bool o1) rfl
              have y2 := (HO8.out).cell 2 (u := .bool o2) rfl
              have y3 := (HO8.out).cell 3 (u := .int .i64 o3) rfl
              have n1 : ¬ w7.heap.size = w.heap.size + 1 + 1 := by omega
              have n2 : ¬ w.heap.size + 1 + 1 = w7.heap.size := by omega
              have n3 : ¬ gb = w.heap.size + 1 + 1 := by omega
              have n4 : ¬ w.heap.size + 1 + 1 = gb := by omega
              generalize Value.agg (gcells ⟨(mn : Int), bk, false, th, na⟩).toArray = GV
              generalize Value.agg #[.int .i64 k, .int .i64 m, .int .i64 a, .int .i64 b, .bool g, .string s, .slice sa sl sc, .slice ao nk cap] = NDV
              refine wp_region_noPanic ?_
              refine wp_region_held_drew (S := fun w' => w'.cell? ⟨w7.heap.size, 0, none⟩ = some (.slice q.ka q.kn q.kc) ∧ w'.cell? ⟨w7.heap.size, 1, none⟩ = some (.int .i64 q.p.2) ∧ w'.cell? ⟨gb, 0, none⟩ = some (.int .i64 mn) ∧ w'.cell? ⟨w.heap.size + 1, 0, none⟩ = some (.bool o0) ∧ w'.cell? ⟨w.heap.size + 1, 1, none⟩ = some (.bool o1) ∧ w'.cell? ⟨w.heap.size + 1, 2, none⟩ = some (.bool o2) ∧ w'.cell? ⟨w.heap.size + 1, 3, none⟩ = some (.int .i64 o3)) (by kernel_rfl) ?_ (fun hHeld => ?_)
              · exact ⟨p0, p1, x0, y0, y1, y2, y3⟩
              refine wpAnyH_take (i := 0) (v := ?_) rfl (by kernel_rfl) (by kernel_rfl) (by kernel_rfl) (fun _ _ _ h => h) (Or.inl ⟨by rfl, ?_⟩) (by assumption) ?_
              rotate_left
              · (intro w' hSw; (try dsimp only at hSw); go_simp; try with_reducible rfl)
              try simp only [Act.put, List.setIfInBounds_toArray, List.set_cons_zero, List.set_cons_succ, List.getElem_toArray, List.getElem_cons_zero, List.getElem_cons_succ]
              refine wpAnyH_take (i := 1) (v := ?_) rfl (by kernel_rfl) (by kernel_rfl) (by kernel_rfl) (fun _ _ _ h => h) (Or.inl ⟨by rfl, ?_⟩) (by assumption) ?_
              rotate_left
              · (intro w' hSw; (try dsimp only at hSw); go_simp; try with_reducible rfl)
              try simp only [Act.put, List.setIfInBounds_toArray, List.set_cons_zero, List.set_cons_succ, List.getElem_toArray, List.getElem_cons_zero, List.getElem_cons_succ]
              refine wpAnyH_take (i := 2) (v := ?_) rfl (by kernel_rfl) (by kernel_rfl) (by kernel_rfl) (fun _ _ _ h => h) (Or.inl ⟨by rfl, ?_⟩) (by assumption) ?_
              rotate_left
              · (intro w' hSw; (try dsimp only at hSw); go_simp; try with_reducible rfl)
              try simp only [Act.put, List.setIfInBounds_toArray, List.set_cons_zero, List.set_cons_succ, List.getElem_toArray, List.getElem_cons_zero, List.getElem_cons_succ]
              refine wpAnyH_take (i := 3) (v := ?_) rfl (by kernel_rfl) (by kernel_rfl) (by kernel_rfl) (fun _ _ _ h => h) (Or.inl ⟨by rfl, ?_⟩) (by assumption) ?_
              rotate_left
              · (intro w' hSw; (try dsimp only at hSw); go_simp; try with_reducible rfl)
              try simp only [Act.put, List.setIfInBounds_toArray, List.set_cons_zero, List.set_cons_succ, List.getElem_toArray, List.getElem_cons_zero, List.getElem_cons_succ]
              refine wpAnyH_take (i := 4) (v := ?_) rfl (by kernel_rfl) (by kernel_rfl) (by kernel_rfl) (fun _ _ _ h => h) (Or.inl ⟨by rfl, ?_⟩) (by assumption) ?_
              rotate_left
              · (intro w' hSw; (try dsimp only at hSw); go_simp; try with_reducible rfl)
              try simp only [Act.put, List.setIfInBounds_toArray, List.set_cons_zero, List.set_cons_succ, List.getElem_toArray, List.getElem_cons_zero, List.getElem_cons_succ]
              refine wpAnyH_take (i := 5) (v := ?_) rfl (by kernel_rfl) (by kernel_rfl) (by kernel_rfl) (fun _ _ _ h => h) (Or.inl ⟨by rfl, ?_⟩) (by assumption) ?_
              rotate_left
              · (intro w' hSw; (try dsimp only at hSw); go_simp; try with_reducible rfl)
              try simp only [Act.put, List.setIfInBounds_toArray, List.set_cons_zero, List.set_cons_succ, List.getElem_toArray, List.getElem_cons_zero, List.getElem_cons_succ]
              refine wpAnyH_take (i := 7) (v := ?_) rfl (by kernel_rfl) (by kernel_rfl) (by kernel_rfl) (fun _ _ _ h => h) (Or.inl ⟨by rfl, ?_⟩) (by assumption) ?_
              rotate_left
              · (intro w' hSw; (try dsimp only at hSw); go_simp; try with_reducible rfl)
              try simp only [Act.put, List.setIfInBounds_toArray, List.set_cons_zero, List.set_cons_succ, List.getElem_toArray, List.getElem_cons_zero, List.getElem_cons_succ]
              refine wpAnyH_ready (rs := [6]) (by kernel_rfl) (by simp) ?_
              refine AllReadyH.cons rfl (fun K hK => ?_) AllReadyH.nil
              go_simp
              go_at_call 18
              refine CL.mono ?_
              rintro e w9 ⟨sna, snc, rfl, ho, b9⟩
              have HO9 : Hid (w9.ownsRow w8.heap.size 9 1 (.slice sna (mn + 1) snc) (mn + 1) ((na.take (mn + 1)).map Value.string) ∧ Below w8.heap.size w8 w9) := ⟨ho, b9⟩
              have HR9 : Hid (Bk w9 (w.heap.size + 1 + 1) #[.slice none 0 0, .int .i64 0, .int .i64 0, .slice none 0 0, .bool false, .bool false, .bool false, .int .i64 0] 34) := HR8.out.on b9
              go_simp
              refine hK.out _ _ ?_ (fun hHeld => ?_)
              · exact ⟨(HP8.out.on b9).cell 0 rfl, (HP8.out.on b9).cell 1 rfl, (HG8.out.on b9).cell 0 rfl, (HO8.out.on b9).cell 0 rfl, (HO8.out.on b9).cell 1 rfl, (HO8.out.on b9).cell 2 rfl, (HO8.out.on b9).cell 3 rfl⟩
              clear hK K ho b9 CL p0 p1 x0 y0 y1 y2 y3
              try simp only [Act.put, List.setIfInBounds_toArray, List.set_cons_zero, List.set_cons_succ, List.getElem_toArray, List.getElem_cons_zero, List.getElem_cons_succ]
              refine wpAnyH_take (i := 8) (v := ?_) rfl (by kernel_rfl) (by kernel_rfl) (by kernel_rfl) (fun _ _ _ h => h) (Or.inl ⟨by rfl, ?_⟩) (by assumption) ?_
              rotate_left
              · (intro w' hSw; (try dsimp only at hSw); go_simp; try with_reducible rfl)
              try simp only [Act.put, List.setIfInBounds_toArray, List.set_cons_zero, List.set_cons_succ, List.getElem_toArray, List.getElem_cons_zero, List.getElem_cons_succ]
              have rz0 := (HR9.out).cell 0 (u := .slice none 0 0) rfl; have rz1 := (HR9.out).cell 1 (u := .int .i64 0) rfl; have rz2 := (HR9.out).cell 2 (u := .int .i64 0) rfl; have rz3 := (HR9.out).cell 3 (u := .slice none 0 0) rfl; have rz4 := (HR9.out).cell 4 (u := .bool false) rfl; have rz5 := (HR9.out).cell 5 (u := .bool false) rfl; have rz6 := (HR9.out).cell 6 (u := .bool false) rfl; have rz7 := (HR9.out).cell 7 (u := .int .i64 0) rfl
              have rf0 := (HR9.out).frozen 0; have rf1 := (HR9.out).frozen 1; have rf2 := (HR9.out).frozen 2; have rf3 := (HR9.out).frozen 3; have rf4 := (HR9.out).frozen 4; have rf5 := (HR9.out).frozen 5; have rf6 := (HR9.out).frozen 6; have rf7 := (HR9.out).frozen 7
              refine wpAnyH_ready (rs := [9]) (by kernel_rfl) (by simp) ?_
              refine AllReadyH.cons rfl (fun K hK => ?_) AllReadyH.nil
              go_simp
              have m1 : some w7.heap.size ≠ some (w.heap.size + 1 + 1) := fun e => n1 (Option.some.inj e)
              have m2 : some gb ≠ some (w.heap.size + 1 + 1) := fun e => n3 (Option.some.inj e)
              have m3 : some (w.heap.size + 1) ≠ some (w.heap.size + 1 + 1) := fun e => by have := Option.some.inj e; omega
              have P10 := (HP8.out.on HO9.out.2).kp (Kp.set8 (r := w.heap.size + 1 + 1) (.slice q.ka q.kn q.kc) (.int .i64 mn) (.int .i64 q.p.2) (.slice sna (mn + 1) snc) (.bool o0) (.bool o1) (.bool o2) (.int .i64 o3)) m1
              have G10 := (HG8.out.on HO9.out.2).kp (Kp.set8 (r := w.heap.size + 1 + 1) (.slice q.ka q.kn q.kc) (.int .i64 mn) (.int .i64 q.p.2) (.slice sna (mn + 1) snc) (.bool o0) (.bool o1) (.bool o2) (.int .i64 o3)) m2
              have O10 := (HO8.out.on HO9.out.2).kp (Kp.set8 (r := w.heap.size + 1 + 1) (.slice q.ka q.kn q.kc) (.int .i64 mn) (.int .i64 q.p.2) (.slice sna (mn + 1) snc) (.bool o0) (.bool o1) (.bool o2) (.int .i64 o3)) m3
              refine hK.out _ _ ?_ (fun hHeld => ?_)
              · exact ⟨P10.cell 0 rfl, P10.cell 1 rfl, G10.cell 0 rfl, O10.cell 0 rfl, O10.cell 1 rfl, O10.cell 2 rfl, O10.cell 3 rfl⟩
              clear hK K P10 G10 O10 m1 m2 m3
              try simp only [Act.put, List.setIfInBounds_toArray, List.set_cons_zero, List.set_cons_succ, List.getElem_toArray, List.getElem_cons_zero, List.getElem_cons_succ]
              refine wpAnyH_take (i := 10) (v := ?_) rfl (by kernel_rfl) (by kernel_rfl) (by kernel_rfl) (fun _ _ _ h => h) (Or.inl ⟨by rfl, ?_⟩) (by assumption) ?_
              rotate_left
              · (intro w' hSw; (try dsimp only at hSw); go_simp; try with_reducible rfl)
              try simp only [Act.put, List.setIfInBounds_toArray, List.set_cons_zero, List.set_cons_succ, List.getElem_toArray, List.getElem_cons_zero, List.getElem_cons_succ]
              refine wpAnyH_done (by kernel_rfl) ?_ _
              refine NoPanic.normal ?_
              clear hHeld
              all_goals (try go_wp2)
              all_goals
                refine bodyPost_ret (results_row_tmp Tryz.results7 _ _ (w.heap.size + 1 + 1) _ #[.slice q.ka q.kn q.kc, .int .i64 mn, .int .i64 q.p.2, .slice sna (mn + 1) snc, .bool o0, .bool o1, .bool o2, .int .i64 o3] _ _ rfl (Bk.set8 HR9.out _ _ _ _ _ _ _ _) Tryz.underlying34 rfl infPr) rfl ?_
              all_goals
                have hs9 := HO9.out.2.size
                obtain ⟨c1, c2, c3, c4, c5, c6⟩ := HQ8.out
                have F1 : Below w.heap.size w ((((((((w9.setCell ⟨w.heap.size + 1 + 1, 0, none⟩ (.slice q.ka q.kn q.kc)).setCell ⟨w.heap.size + 1 + 1, 1, none⟩ (.int .i64 mn)).setCell ⟨w.heap.size + 1 + 1, 2, none⟩ (.int .i64 q.p.2)).setCell ⟨w.heap.size + 1 + 1, 3, none⟩ (.slice sna (mn + 1) snc)).setCell ⟨w.heap.size + 1 + 1, 4, none⟩ (.bool o0)).setCell ⟨w.heap.size + 1 + 1, 5, none⟩ (.bool o1)).setCell ⟨w.heap.size + 1 + 1, 6, none⟩ (.bool o2)).setCell ⟨w.heap.size + 1 + 1, 7, none⟩ (.int .i64 o3)) := (HB8.out.trans (below_less HO9.out.2 HB8.out.size)).trans ((Kp.set8 _ _ _ _ _ _ _ _).below (by omega) (fun x e => by injection e with e; omega))
                have F2 := c2.keep (w' := ((((((((w9.setCell ⟨w.heap.size + 1 + 1, 0, none⟩ (.slice q.ka q.kn q.kc)).setCell ⟨w.heap.size + 1 + 1, 1, none⟩ (.int .i64 mn)).setCell ⟨w.heap.size + 1 + 1, 2, none⟩ (.int .i64 q.p.2)).setCell ⟨w.heap.size + 1 + 1, 3, none⟩ (.slice sna (mn + 1) snc)).setCell ⟨w.heap.size + 1 + 1, 4, none⟩ (.bool o0)).setCell ⟨w.heap.size + 1 + 1, 5, none⟩ (.bool o1)).setCell ⟨w.heap.size + 1 + 1, 6, none⟩ (.bool o2)).setCell ⟨w.heap.size + 1 + 1, 7, none⟩ (.int .i64 o3))) (fun b' off' e' _ hl => ((Kp.set8 _ _ _ _ _ _ _ _).block b' (Nat.lt_of_lt_of_le hl hs9) (fun e => by injection e with e; have := (c6 _ e').1; simp only at this; omega)).trans (HO9.out.2.block b' hl))
                have F3 := c3.imp fun s l (h : QN w8 w6.heap.size s l) => ((h.on HO9.out.2).set8 (r := w.heap.size + 1 + 1) (by omega) (.slice q.ka q.kn q.kc) (.int .i64 mn) (.int .i64 q.p.2) (.slice sna (mn + 1) snc) (.bool o0) (.bool o1) (.bool o2) (.int .i64 o3)).wide (lo' := w.heap.size) (by omega)
                have F4 := own_less (B' := w.heap.size) (own_kp HO9.out.1 (Kp.set8 (r := w.heap.size + 1 + 1) (.slice q.ka q.kn q.kc) (.int .i64 mn) (.int .i64 q.p.2) (.slice sna (mn + 1) snc) (.bool o0) (.bool o1) (.bool o2) (.int .i64 o3)) (fun x e => by injection e with e; omega)) (by omega)
                exact ⟨F1, q, sna, mn, rfl, hmn2, snc, rfl, c1, F2, F3, c4, c5, (by rw [← List.map_take]; exact F4)⟩
end Go.Proofs.YtjbcapnpknbbaaaGreat.cmp
