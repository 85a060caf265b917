/- The document's Prog. -/
import Derived.Test.YtjbcapnpknbbaaaGreatCmpDoc14
import Derived.Test.YtjbcapnpknbbaaaGreatCmpProgOk
import Derived.Test.YtjbcapnpknbbaaaGreatWidRefB
import Derived.Laws.CopyOwn
import Derived.Deep.WholeRow
import Derived.Deep.CutBlock
set_option linter.unusedVariables false
set_option linter.unusedSimpArgs false
namespace Go.Proofs.YtjbcapnpknbbaaaGreat.cmp
open Go.RowKit nod
open Go.Proofs.YtjbcapnpknbbaaaGreat.rng (R RV info_parts)
open Go.Proofs.YtjbcapnpknbbaaaGreat.low (plN setsN)
open Go.Proofs.YtjbcapnpknbbaaaGreat.wid (badN errW)
theorem DS.new (w : World) (h : Hd) : DS (w.alloc (.cells (hcells h (.slice none 0 0) 0) 63)) (w.alloc (.cells (hcells h (.slice none 0 0) 0) 63)) w.heap.size none h ([], 0) :=
  ⟨⟨.slice none 0 0, [], Bk.new w _ _, World.ownsRow_nil _ _ _ _, .nil, fun x e => by cases e⟩, Kq.refl _ _, by simp, ⟨by decide, by decide⟩⟩
theorem grown_row (w : World) (g : Nat) (cs : Array Value) : w.grownBy (w.setRow g cs) (some g) :=
  ⟨rfl, rfl, rfl, by simp, fun k _ hk => setRow_other _ _ _ _ (fun e => hk (by rw [e]))⟩
theorem doc_prog (q : Pc (List R)) : putP (putP (addP (putP ([], 0) [ins [] 4 0 0]) q) [ins [] 4 1 0]) [ins [] 12 0 0] = putP (savedP [] 0 q) [ins [] 12 0 0] := by
  have := saved_doc ([] : List R) ([], 0) q 0
  rw [zero_addP] at this
  rw [← this]; rfl
theorem len_prN (t : Nd) : (prN t).1.length = (pcN t).1.length + 3 := by
  unfold prN; rw [len_putP, len_savedP]; rfl
set_option maxRecDepth 100000 in
set_option maxHeartbeats 16000000 in
theorem rprog_any (t : Nd) (v : Value) (o0 o1 o2 : Bool) (o3 : Int) (w : World) (hv : NV w.heap.size w t v) (hsets : setsN t) (hsz : t.sz ≤ 600) :
    Calls Tryz.prog 8 #[v, .agg #[.bool o0, .bool o1, .bool o2, .int .i64 o3]] w fun e w' => Below w.heap.size w w' ∧ ((¬ errP t o3 = 0 ∧ e = .returned (.tuple #[.agg #[.slice none 0 0, .int .i64 0, .int .i64 0, .slice none 0 0, .bool false, .bool false, .bool false, .int .i64 0], .int .i64 (errP t o3)])) ∨ (errP t o3 = 0 ∧ ∃ (ka : Option Addr) (kn kc : Nat) (p : List (Is SV)) (va : Option Addr) (mn vc : Nat), (gN t G0).most = mn ∧ mn ≤ 20 ∧ e = .returned (.tuple #[.agg #[.slice ka kn kc, .int .i64 mn, .int .i64 (prN t).2, .slice va (mn + 1) vc, .bool o0, .bool o1, .bool o2, .int .i64 o3], .int .i64 0]) ∧ p.length = kn ∧ kn ≤ kc ∧ CR w' ka p ∧ RL (QO w') p (prN t).1 ∧ (ka = none → kc = 0) ∧ w'.ownsRow w.heap.size 9 1 (.slice va (mn + 1) vc) (mn + 1) (((gN t G0).names.take (mn + 1)).map Value.string))) := by
  have hmost : plN t 0 = true → 0 ≤ (gN t G0).most ∧ (gN t G0).most ≤ 20 := fun h => gN_most t 0 G0 h (by decide) (by decide)
  have hnames : plN t 0 = true → grpD t = if (gN t G0).twice = true ∨ (gN t G0).most < (gN t G0).back then none else some ((gN t G0).names.take ((gN t G0).most.toNat + 1)) := grp_link t 0
  have CGX := fun W hW hpl => groups_any t v W ((hv.keep hW).wide hW.size) hsz hpl
  have CBX := fun W (hW : Below w.heap.size w W) => wid.rbound_any _ t v W (Nat.le_refl _) (by omega) ((hv.keep hW).wide hW.size)
  have NVW : Hid (∀ W, Below w.heap.size w W → NV w.heap.size W t v) := fun W h => hv.keep h
  have CPX := fun W (hW : Below w.heap.size w W) => low.rPlain_any t v W ((hv.keep hW).wide hW.size) (by omega) hsets
  have HDOC : Hid (∀ h, plN t 0 = true → Doc h (5001 + 6 * t.sz) t) := fun h hp => doc_any h _ t 0 (Nat.le_refl _) hsz hp hsets
  obtain ⟨k, m, a, b, g, s, st, ks, sa, sc, ao, cap, hT, rfl, _⟩ := hv.open
  generalize st.length = sl at *
  generalize ks.length = nk at *
  have HB1 : Hid (Below w.heap.size w (((w.alloc (.cells #[.int .i64 k, .int .i64 m, .int .i64 a, .int .i64 b, .bool g, .string s, .slice sa sl sc, .slice ao nk cap] 25)).alloc (.cells #[.bool o0, .bool o1, .bool o2, .int .i64 o3] 27)).alloc (.cells #[.slice none 0 0, .int .i64 0, .int .i64 0, .slice none 0 0, .bool false, .bool false, .bool false, .int .i64 0] 34))) := (below2 _ _ _).alloc (by simp; omega) _
  have HX1 : Hid (Bk (((w.alloc (.cells #[.int .i64 k, .int .i64 m, .int .i64 a, .int .i64 b, .bool g, .string s, .slice sa sl sc, .slice ao nk cap] 25)).alloc (.cells #[.bool o0, .bool o1, .bool o2, .int .i64 o3] 27)).alloc (.cells #[.slice none 0 0, .int .i64 0, .int .i64 0, .slice none 0 0, .bool false, .bool false, .bool false, .int .i64 0] 34)) w.heap.size #[.int .i64 k, .int .i64 m, .int .i64 a, .int .i64 b, .bool g, .string s, .slice sa sl sc, .slice ao nk cap] 25) := ((Bk.new w _ _).past _).past _
  have HO1 : Hid (Bk (((w.alloc (.cells #[.int .i64 k, .int .i64 m, .int .i64 a, .int .i64 b, .bool g, .string s, .slice sa sl sc, .slice ao nk cap] 25)).alloc (.cells #[.bool o0, .bool o1, .bool o2, .int .i64 o3] 27)).alloc (.cells #[.slice none 0 0, .int .i64 0, .int .i64 0, .slice none 0 0, .bool false, .bool false, .bool false, .int .i64 0] 34)) (w.heap.size + 1) #[.bool o0, .bool o1, .bool o2, .int .i64 o3] 27) := bk2.past _
  have HR1 : Hid (Bk (((w.alloc (.cells #[.int .i64 k, .int .i64 m, .int .i64 a, .int .i64 b, .bool g, .string s, .slice sa sl sc, .slice ao nk cap] 25)).alloc (.cells #[.bool o0, .bool o1, .bool o2, .int .i64 o3] 27)).alloc (.cells #[.slice none 0 0, .int .i64 0, .int .i64 0, .slice none 0 0, .bool false, .bool false, .bool false, .int .i64 0] 34)) (w.heap.size + 1 + 1) #[.slice none 0 0, .int .i64 0, .int .i64 0, .slice none 0 0, .bool false, .bool false, .bool false, .int .i64 0] 34) := by
    have := Bk.new ((w.alloc (.cells #[.int .i64 k, .int .i64 m, .int .i64 a, .int .i64 b, .bool g, .string s, .slice sa sl sc, .slice ao nk cap] 25)).alloc (.cells #[.bool o0, .bool o1, .bool o2, .int .i64 o3] 27)) #[.slice none 0 0, .int .i64 0, .int .i64 0, .slice none 0 0, .bool false, .bool false, .bool false, .int .i64 0] 34
    unfold Hid; simpa using this
  have hz : ((((w.alloc (.cells #[.int .i64 k, .int .i64 m, .int .i64 a, .int .i64 b, .bool g, .string s, .slice sa sl sc, .slice ao nk cap] 25)).alloc (.cells #[.bool o0, .bool o1, .bool o2, .int .i64 o3] 27)).alloc (.cells #[.slice none 0 0, .int .i64 0, .int .i64 0, .slice none 0 0, .bool false, .bool false, .bool false, .int .i64 0] 34))).heap.size = w.heap.size + 1 + 1 + 1 := by simp
  obtain ⟨w1, hw1⟩ : ∃ w1, (((w.alloc (.cells #[.int .i64 k, .int .i64 m, .int .i64 a, .int .i64 b, .bool g, .string s, .slice sa sl sc, .slice ao nk cap] 25)).alloc (.cells #[.bool o0, .bool o1, .bool o2, .int .i64 o3] 27)).alloc (.cells #[.slice none 0 0, .int .i64 0, .int .i64 0, .slice none 0 0, .bool false, .bool false, .bool false, .int .i64 0] 34)) = w1 := ⟨_, rfl⟩
  have HW1 : Hid ((((w.alloc (.cells #[.int .i64 k, .int .i64 m, .int .i64 a, .int .i64 b, .bool g, .string s, .slice sa sl sc, .slice ao nk cap] 25)).alloc (.cells #[.bool o0, .bool o1, .bool o2, .int .i64 o3] 27)).alloc (.cells #[.slice none 0 0, .int .i64 0, .int .i64 0, .slice none 0 0, .bool false, .bool false, .bool false, .int .i64 0] 34)) = w1) := hw1
  rw [hw1] at HB1 HX1 HO1 HR1 hz
  have CP := CPX w1 HB1.out
  have hszt : t.sz ≤ 600 := hsz
  clear hw1 hv hT CPX hsets hsz
  obtain ⟨E, hE⟩ : ∃ E, errP t o3 = E := ⟨_, rfl⟩
  rw [hE]
  have HE : Hid (errP t o3 = E) := hE
  clear hE
  go_enter Tryz.func8, Tryz.ntmps8
  go_upto_region 1 with fail
  rw [HW1.out]
  have x0 := (HX1.out).cell 0 (u := .int .i64 k) rfl; have x1 := (HX1.out).cell 1 (u := .int .i64 m) rfl; have x2 := (HX1.out).cell 2 (u := .int .i64 a) rfl; have x3 := (HX1.out).cell 3 (u := .int .i64 b) rfl; have x4 := (HX1.out).cell 4 (u := .bool g) rfl; have x5 := (HX1.out).cell 5 (u := .string s) rfl; have x6 := (HX1.out).cell 6 (u := .slice sa sl sc) rfl; have x7 := (HX1.out).cell 7 (u := .slice ao nk cap) rfl
  cases hp : plN t 0 with
  | false =>
    rw [hp] at CP
    obtain rfl : E = 1 := by rw [← HE.out]; unfold errP; rw [if_pos (.inl hp)]
    clear HE CGX CBX NVW hmost hnames HDOC
    go_wp2_with (first
      | (go_at_call 19; refine CP.mono ?_; rintro e w2 ⟨rfl, b2⟩; have HB2 : Hid (Below w.heap.size w w2) := HB1.out.trans (below_less b2 HB1.out.size); have HR2 : Hid (Bk w2 (w.heap.size + 1 + 1) #[.slice none 0 0, .int .i64 0, .int .i64 0, .slice none 0 0, .bool false, .bool false, .bool false, .int .i64 0] 34) := HR1.out.on b2; have HO2 : Hid (Bk w2 (w.heap.size + 1) #[.bool o0, .bool o1, .bool o2, .int .i64 o3] 27) := HO1.out.on b2; have HX2 : Hid (Bk w2 w.heap.size #[.int .i64 k, .int .i64 m, .int .i64 a, .int .i64 b, .bool g, .string s, .slice sa sl sc, .slice ao nk cap] 25) := HX1.out.on b2; have y0 := (HO2.out).cell 0 (u := .bool o0) rfl; have y1 := (HO2.out).cell 1 (u := .bool o1) rfl; have y2 := (HO2.out).cell 2 (u := .bool o2) rfl; have y3 := (HO2.out).cell 3 (u := .int .i64 o3) rfl; clear b2)
      | (refine wpList_store_row rfl 34 _ _ rfl (w.heap.size + 1 + 1) #[.slice none 0 0, .int .i64 0, .int .i64 0, .slice none 0 0, .bool false, .bool false, .bool false, .int .i64 0] rfl rfl _ _ HR2.out infPr rfl zpr_one ?_))
    refine bodyPost_ret (results_row_tmp Tryz.results7 _ _ (w.heap.size + 1 + 1) _ #[.slice none 0 0, .int .i64 0, .int .i64 0, .slice none 0 0, .bool false, .bool false, .bool false, .int .i64 0] _ _ rfl (setRow_heap _ _ _ _ _ _ HR2.out) Tryz.underlying34 rfl infPr) rfl ?_
    first | exact ⟨below_setRow (HB2.out) (by omega) _, .inl ⟨by decide, rfl⟩⟩ | exact ⟨below_setRow (HB2.out) (by omega) _, rfl⟩
  | true =>
    rw [hp] at CP
    by_cases hf : 0 ≤ o3 ∧ o3 ≤ 2
    case neg =>
      obtain rfl : E = 1 := by rw [← HE.out]; unfold errP; rw [if_pos (.inr hf)]
      clear HE CGX CBX NVW hmost hnames HDOC
      have hf2 : o3 < 0 ∨ 2 < o3 := by omega
      clear hf
      rcases hf2 with hf2 | hf2
      · go_wp2_with (first
          | (go_at_call 19; refine CP.mono ?_; rintro e w2 ⟨rfl, b2⟩; have HB2 : Hid (Below w.heap.size w w2) := HB1.out.trans (below_less b2 HB1.out.size); have HR2 : Hid (Bk w2 (w.heap.size + 1 + 1) #[.slice none 0 0, .int .i64 0, .int .i64 0, .slice none 0 0, .bool false, .bool false, .bool false, .int .i64 0] 34) := HR1.out.on b2; have HO2 : Hid (Bk w2 (w.heap.size + 1) #[.bool o0, .bool o1, .bool o2, .int .i64 o3] 27) := HO1.out.on b2; have HX2 : Hid (Bk w2 w.heap.size #[.int .i64 k, .int .i64 m, .int .i64 a, .int .i64 b, .bool g, .string s, .slice sa sl sc, .slice ao nk cap] 25) := HX1.out.on b2; have y0 := (HO2.out).cell 0 (u := .bool o0) rfl; have y1 := (HO2.out).cell 1 (u := .bool o1) rfl; have y2 := (HO2.out).cell 2 (u := .bool o2) rfl; have y3 := (HO2.out).cell 3 (u := .int .i64 o3) rfl; clear b2)
          | (refine wpList_store_row rfl 34 _ _ rfl (w.heap.size + 1 + 1) #[.slice none 0 0, .int .i64 0, .int .i64 0, .slice none 0 0, .bool false, .bool false, .bool false, .int .i64 0] rfl rfl _ _ HR2.out infPr rfl zpr_one ?_))
        refine bodyPost_ret (results_row_tmp Tryz.results7 _ _ (w.heap.size + 1 + 1) _ #[.slice none 0 0, .int .i64 0, .int .i64 0, .slice none 0 0, .bool false, .bool false, .bool false, .int .i64 0] _ _ rfl (setRow_heap _ _ _ _ _ _ HR2.out) Tryz.underlying34 rfl infPr) rfl ?_
        first | exact ⟨below_setRow (HB2.out) (by omega) _, .inl ⟨by decide, rfl⟩⟩ | exact ⟨below_setRow (HB2.out) (by omega) _, rfl⟩
      · have hf3 : ¬ o3 < 0 := by omega
        go_wp2_with (first
          | (go_at_call 19; refine CP.mono ?_; rintro e w2 ⟨rfl, b2⟩; have HB2 : Hid (Below w.heap.size w w2) := HB1.out.trans (below_less b2 HB1.out.size); have HR2 : Hid (Bk w2 (w.heap.size + 1 + 1) #[.slice none 0 0, .int .i64 0, .int .i64 0, .slice none 0 0, .bool false, .bool false, .bool false, .int .i64 0] 34) := HR1.out.on b2; have HO2 : Hid (Bk w2 (w.heap.size + 1) #[.bool o0, .bool o1, .bool o2, .int .i64 o3] 27) := HO1.out.on b2; have HX2 : Hid (Bk w2 w.heap.size #[.int .i64 k, .int .i64 m, .int .i64 a, .int .i64 b, .bool g, .string s, .slice sa sl sc, .slice ao nk cap] 25) := HX1.out.on b2; have y0 := (HO2.out).cell 0 (u := .bool o0) rfl; have y1 := (HO2.out).cell 1 (u := .bool o1) rfl; have y2 := (HO2.out).cell 2 (u := .bool o2) rfl; have y3 := (HO2.out).cell 3 (u := .int .i64 o3) rfl; clear b2)
          | (refine wpList_store_row rfl 34 _ _ rfl (w.heap.size + 1 + 1) #[.slice none 0 0, .int .i64 0, .int .i64 0, .slice none 0 0, .bool false, .bool false, .bool false, .int .i64 0] rfl rfl _ _ HR2.out infPr rfl zpr_one ?_))
        refine bodyPost_ret (results_row_tmp Tryz.results7 _ _ (w.heap.size + 1 + 1) _ #[.slice none 0 0, .int .i64 0, .int .i64 0, .slice none 0 0, .bool false, .bool false, .bool false, .int .i64 0] _ _ rfl (setRow_heap _ _ _ _ _ _ HR2.out) Tryz.underlying34 rfl infPr) rfl ?_
        first | exact ⟨below_setRow (HB2.out) (by omega) _, .inl ⟨by decide, rfl⟩⟩ | exact ⟨below_setRow (HB2.out) (by omega) _, rfl⟩
    case pos =>
      obtain ⟨hf1, hf2⟩ := hf
      have hf3 : ¬ o3 < 0 := by omega
      have hf4 : ¬ 2 < o3 := by omega
      have HE2 : Hid ((if (gN t G0).twice = true ∨ (gN t G0).most < (gN t G0).back then 1 else if badN t = true then 191 else if 4997 < (pcN t).1.length then 190 else 0) = E) := by
        have := HE.out; unfold errP at this; rw [if_neg (by rw [hp]; exact fun h => h.elim (fun h => by cases h) (fun h => h ⟨hf1, hf2⟩))] at this; exact this
      have HM : Hid (0 ≤ (gN t G0).most ∧ (gN t G0).most ≤ 20) := hmost hp
      have HNM : Hid (grpD t = if (gN t G0).twice = true ∨ (gN t G0).most < (gN t G0).back then none else some ((gN t G0).names.take ((gN t G0).most.toNat + 1))) := hnames hp
      have HDC : Hid (∀ h, Doc h (5001 + 6 * t.sz) t) := fun h => HDOC.out h hp
      have HCG : Hid _ := CGX
      have HCB : Hid _ := CBX
      have HPL : Hid (plN t 0 = true) := hp
      clear hp HE hmost hnames HDOC CGX CBX
      go_upto_region 3 with (first
        | (go_at_call 19; refine CP.mono ?_; rintro e w2 ⟨rfl, b2⟩; have HB2 : Hid (Below w.heap.size w w2) := HB1.out.trans (below_less b2 HB1.out.size); have HR2 : Hid (Bk w2 (w.heap.size + 1 + 1) #[.slice none 0 0, .int .i64 0, .int .i64 0, .slice none 0 0, .bool false, .bool false, .bool false, .int .i64 0] 34) := HR1.out.on b2; have HO2 : Hid (Bk w2 (w.heap.size + 1) #[.bool o0, .bool o1, .bool o2, .int .i64 o3] 27) := HO1.out.on b2; have HX2 : Hid (Bk w2 w.heap.size #[.int .i64 k, .int .i64 m, .int .i64 a, .int .i64 b, .bool g, .string s, .slice sa sl sc, .slice ao nk cap] 25) := HX1.out.on b2; have y0 := (HO2.out).cell 0 (u := .bool o0) rfl; have y1 := (HO2.out).cell 1 (u := .bool o1) rfl; have y2 := (HO2.out).cell 2 (u := .bool o2) rfl; have y3 := (HO2.out).cell 3 (u := .int .i64 o3) rfl; clear b2))
      clear x0 x1 x2 x3 x4 x5 x6 x7 y0 y1 y2 y3 HB1 HX1 HO1 HR1 HW1
      have x0 := (HX2.out).cell 0 (u := .int .i64 k) rfl; have x1 := (HX2.out).cell 1 (u := .int .i64 m) rfl; have x2 := (HX2.out).cell 2 (u := .int .i64 a) rfl; have x3 := (HX2.out).cell 3 (u := .int .i64 b) rfl; have x4 := (HX2.out).cell 4 (u := .bool g) rfl; have x5 := (HX2.out).cell 5 (u := .string s) rfl; have x6 := (HX2.out).cell 6 (u := .slice sa sl sc) rfl; have x7 := (HX2.out).cell 7 (u := .slice ao nk cap) rfl
      have CG := HCG.out w2 HB2.out HPL.out
      go_wp2_with fail
      go_at_call 20
      refine CG.mono ?_
      clear CG x0 x1 x2 x3 x4 x5 x6 x7
      rintro e w3 ⟨b3, hres⟩
      have HB3 : Hid (Below w.heap.size w w3) := HB2.out.trans (below_less b3 HB2.out.size)
      have HR3 : Hid (Bk w3 (w.heap.size + 1 + 1) #[.slice none 0 0, .int .i64 0, .int .i64 0, .slice none 0 0, .bool false, .bool false, .bool false, .int .i64 0] 34) := HR2.out.on b3; have HO3 : Hid (Bk w3 (w.heap.size + 1) #[.bool o0, .bool o1, .bool o2, .int .i64 o3] 27) := HO2.out.on b3; have HX3 : Hid (Bk w3 w.heap.size #[.int .i64 k, .int .i64 m, .int .i64 a, .int .i64 b, .bool g, .string s, .slice sa sl sc, .slice ao nk cap] 25) := HX2.out.on b3
      have hs23 := b3.size
      have hs2 := HB2.out.size
      rcases hres with ⟨hg, rfl⟩ | ⟨nms, va, vc, hg, hn21, rfl, hnr⟩
      · obtain rfl : E = 1 := by
          rw [← HE2.out, if_pos]
          have := HNM.out
          rw [hg] at this
          by_cases c : (gN t G0).twice = true ∨ (gN t G0).most < (gN t G0).back
          · exact c
          · rw [if_neg c] at this; cases this
        clear HE2 HCB HCG HDC HM HNM b3 hg HPL NVW
        go_wp2_with (first
          | (refine wpList_store_row rfl 34 _ _ rfl (w.heap.size + 1 + 1) #[.slice none 0 0, .int .i64 0, .int .i64 0, .slice none 0 0, .bool false, .bool false, .bool false, .int .i64 0] rfl rfl _ _ HR3.out infPr rfl zpr_one ?_))
        refine bodyPost_ret (results_row_tmp Tryz.results7 _ _ (w.heap.size + 1 + 1) _ #[.slice none 0 0, .int .i64 0, .int .i64 0, .slice none 0 0, .bool false, .bool false, .bool false, .int .i64 0] _ _ rfl (setRow_heap _ _ _ _ _ _ HR3.out) Tryz.underlying34 rfl infPr) rfl ?_
        first | exact ⟨below_setRow (HB3.out) (by omega) _, .inl ⟨by decide, rfl⟩⟩ | exact ⟨below_setRow (HB3.out) (by omega) _, rfl⟩
      · have hnt : ¬ ((gN t G0).twice = true ∨ (gN t G0).most < (gN t G0).back) := fun c => by
          have := HNM.out
          rw [hg, if_pos c] at this; cases this
        have hnms : nms = (gN t G0).names.take ((gN t G0).most.toNat + 1) := by
          have := HNM.out
          rw [hg, if_neg hnt] at this; exact Option.some.inj this
        have HE3 : Hid ((if badN t = true then 191 else if 4997 < (pcN t).1.length then 190 else 0) = E) := by
          have := HE2.out; rw [if_neg hnt] at this; exact this
        obtain ⟨mn, hmn⟩ := Int.eq_ofNat_of_zero_le HM.out.1
        have hmn2 : mn ≤ 20 := by have := HM.out.2; omega
        have HMN : Hid ((gN t G0).most = mn) := hmn
        have hnl : nms.length = mn + 1 := by
          obtain ⟨f1, _, f3, _⟩ := gN_fold _ t 0 G0 (Nat.le_refl _) HPL.out
          have hr := run_link (ndN 9 t) ([NB0], List.replicate 21 false) (p9 G0) f3 ⟨rfl, by decide, by decide, rfl, rfl, rfl, rfl, fun i hi1 hi2 => by show (List.replicate 21 NB0)[i]? = _; rw [List.getElem?_replicate, if_pos hi2], fun a _ => rfl⟩
          have hlen : (gN t G0).names.length = 21 := by
            rw [← f1] at hr
            cases hrun : runD (ndN 9 t) ([NB0], List.replicate 21 false) with
            | none => rw [hrun] at hr; exact absurd (Or.inl hr) hnt
            | some s => rw [hrun] at hr; exact hr.nl
          rw [hnms, List.length_take, hlen, hmn]
          omega
        rw [hnl] at hnr ⊢
        have HNR : Hid (w3.ownsRow w.heap.size 9 1 (.slice va (mn + 1) vc) (mn + 1) (((gN t G0).names.take (mn + 1)).map Value.string)) := by
          unfold Hid
          have : nms = (gN t G0).names.take (mn + 1) := by rw [hnms, hmn]; rfl
          rw [← this]; exact own_less hnr (by omega)
        have CB := HCB.out w3 HB3.out
        clear HE2 HCB HCG HM HNM b3 hg hnms hnr hnt hmn hnl hn21
        have x0 := (HX3.out).cell 0 (u := .int .i64 k) rfl; have x1 := (HX3.out).cell 1 (u := .int .i64 m) rfl; have x2 := (HX3.out).cell 2 (u := .int .i64 a) rfl; have x3 := (HX3.out).cell 3 (u := .int .i64 b) rfl; have x4 := (HX3.out).cell 4 (u := .bool g) rfl; have x5 := (HX3.out).cell 5 (u := .string s) rfl; have x6 := (HX3.out).cell 6 (u := .slice sa sl sc) rfl; have x7 := (HX3.out).cell 7 (u := .slice ao nk cap) rfl
        cases hbad : badN t with
        | true =>
          rw [hbad, show errW true = 191 from rfl] at CB
          obtain rfl : E = 191 := by rw [← HE3.out, if_pos hbad]
          clear HE3 NVW HDC HPL HMN HNR
          go_wp2_with (first
            | (go_at_call 21; refine CB.mono ?_; clear CB; rintro e w4 ⟨rfl, b4⟩; have HB4 : Hid (Below w.heap.size w w4) := HB3.out.trans (below_less b4 HB3.out.size); have HR4 : Hid (Bk w4 (w.heap.size + 1 + 1) #[.slice none 0 0, .int .i64 0, .int .i64 0, .slice none 0 0, .bool false, .bool false, .bool false, .int .i64 0] 34) := HR3.out.on b4; have HO4 : Hid (Bk w4 (w.heap.size + 1) #[.bool o0, .bool o1, .bool o2, .int .i64 o3] 27) := HO3.out.on b4; have HX4 : Hid (Bk w4 w.heap.size #[.int .i64 k, .int .i64 m, .int .i64 a, .int .i64 b, .bool g, .string s, .slice sa sl sc, .slice ao nk cap] 25) := HX3.out.on b4; clear b4)
            | (refine wpList_store_row rfl 34 _ _ rfl (w.heap.size + 1 + 1) #[.slice none 0 0, .int .i64 0, .int .i64 0, .slice none 0 0, .bool false, .bool false, .bool false, .int .i64 0] rfl rfl _ _ HR4.out infPr rfl zpr_one ?_))
          refine bodyPost_ret (results_row_tmp Tryz.results7 _ _ (w.heap.size + 1 + 1) _ #[.slice none 0 0, .int .i64 0, .int .i64 0, .slice none 0 0, .bool false, .bool false, .bool false, .int .i64 0] _ _ rfl (setRow_heap _ _ _ _ _ _ HR4.out) Tryz.underlying34 rfl infPr) rfl ?_
          first | exact ⟨below_setRow (HB4.out) (by omega) _, .inl ⟨by decide, rfl⟩⟩ | exact ⟨below_setRow (HB4.out) (by omega) _, rfl⟩
        | false =>
          rw [hbad, show errW false = 0 from rfl] at CB
          have HE4 : Hid ((if 4997 < (pcN t).1.length then 190 else 0) = E) := by
            have := HE3.out; rw [if_neg (by rw [hbad]; exact fun h => by cases h)] at this; exact this
          have hwm : IntKind.i64.wrap ((mn : Int) + 1 - 1) = (mn : Int) := by rw [show (mn : Int) + 1 - 1 = mn by omega]; exact wrap_near (by omega) (by omega)
          have hcap : mn + 1 ≤ vc := by
            rcases HNR.out.2 with ⟨e, h0⟩ | ⟨g1, c1, cu1, e, _, _, h1, _⟩
            · cases e
            · cases e; exact h1
          clear HE3 hbad
          go_upto_region 9 with (first
            | (go_at_call 21; refine CB.mono ?_; clear CB; rintro e w4 ⟨rfl, b4⟩; have HB4 : Hid (Below w.heap.size w w4) := HB3.out.trans (below_less b4 HB3.out.size); have HR4 : Hid (Bk w4 (w.heap.size + 1 + 1) #[.slice none 0 0, .int .i64 0, .int .i64 0, .slice none 0 0, .bool false, .bool false, .bool false, .int .i64 0] 34) := HR3.out.on b4; have HO4 : Hid (Bk w4 (w.heap.size + 1) #[.bool o0, .bool o1, .bool o2, .int .i64 o3] 27) := HO3.out.on b4; have HX4 : Hid (Bk w4 w.heap.size #[.int .i64 k, .int .i64 m, .int .i64 a, .int .i64 b, .bool g, .string s, .slice sa sl sc, .slice ao nk cap] 25) := HX3.out.on b4; have HNR4 : Hid (w4.ownsRow w.heap.size 9 1 (.slice va (mn + 1) vc) (mn + 1) (((gN t G0).names.take (mn + 1)).map Value.string)) := rng.own_below' HNR.out b4; clear b4))
          clear x0 x1 x2 x3 x4 x5 x6 x7
          have hs34 := HB4.out.size
          have hl4 := HR4.out.lt
          have y0 := (HO4.out).cell 0 (u := .bool o0) rfl; have y1 := (HO4.out).cell 1 (u := .bool o1) rfl; have y2 := (HO4.out).cell 2 (u := .bool o2) rfl; have y3 := (HO4.out).cell 3 (u := .int .i64 o3) rfl
          go_upto_region 10 with fail
          clear y0 y1 y2 y3
          obtain ⟨w5, hw5⟩ : ∃ w5, w4.alloc (.cells #[.slice none 0 0, .int .i64 (mn : Int), .int .i64 0, .slice va (mn + 1) vc, .bool o0, .bool o1, .bool o2, .int .i64 o3] 63) = w5 := ⟨_, rfl⟩
          have hz5 : w5.heap.size = w4.heap.size + 1 := by rw [← hw5]; simp
          have E5 : DS w5 w5 w4.heap.size none ⟨(mn : Int), va, mn + 1, vc, o0, o1, o2, o3⟩ ([], 0) := by rw [← hw5]; exact DS.new w4 ⟨(mn : Int), va, mn + 1, vc, o0, o1, o2, o3⟩
          have b45 : Below w4.heap.size w4 w5 := by rw [← hw5]; exact (Below.refl _ _).alloc (Nat.le_refl _) _
          have HB5 : Hid (Below w.heap.size w w5) := HB4.out.trans (below_less b45 hs34)
          have HR5 : Hid (Bk w5 (w.heap.size + 1 + 1) #[.slice none 0 0, .int .i64 0, .int .i64 0, .slice none 0 0, .bool false, .bool false, .bool false, .int .i64 0] 34) := HR4.out.on b45; have HO5 : Hid (Bk w5 (w.heap.size + 1) #[.bool o0, .bool o1, .bool o2, .int .i64 o3] 27) := HO4.out.on b45; have HX5 : Hid (Bk w5 w.heap.size #[.int .i64 k, .int .i64 m, .int .i64 a, .int .i64 b, .bool g, .string s, .slice sa sl sc, .slice ao nk cap] 25) := HX4.out.on b45
          have HNR5 : Hid (w5.ownsRow w.heap.size 9 1 (.slice va (mn + 1) vc) (mn + 1) (((gN t G0).names.take (mn + 1)).map Value.string)) := rng.own_below' HNR4.out b45
          obtain ⟨pb, hpb⟩ : ∃ pb, w4.heap.size = pb := ⟨_, rfl⟩
          rw [hw5, hpb]
          rw [hpb] at E5 hz5 hs34 hl4
          obtain ⟨hd, hhd⟩ : ∃ hd : Hd, (⟨(mn : Int), va, mn + 1, vc, o0, o1, o2, o3⟩ : Hd) = hd := ⟨_, rfl⟩
          have HHD : Hid (hd = ⟨(mn : Int), va, mn + 1, vc, o0, o1, o2, o3⟩) := hhd.symm
          rw [hhd] at E5
          have HE5 : Hid (DS w5 w5 pb none hd ([], 0)) := E5
          have CP5 := put_d E5 4 0 0 0 0 none 0 0 [] (qo_nil _) (by simp)
          have HV5 : Hid (NV w.heap.size w5 t (.agg #[.int .i64 k, .int .i64 m, .int .i64 a, .int .i64 b, .bool g, .string s, .slice sa sl sc, .slice ao nk cap])) := NVW.out w5 HB5.out
          clear hw5 hpb hhd b45 E5 HR4 HO4 HX4 HB4 HNR4 HR3 HO3 HX3 HB3 HNR
          obtain ⟨d1, hd1⟩ : ∃ d1 : Pc (List R), putP ([], 0) [⟨4, 0, 0, 0, 0, []⟩] = d1 := ⟨_, rfl⟩
          have HD1 : Hid (d1 = putP ([], 0) [ins [] 4 0 0]) := hd1.symm
          have hdl : d1.1.length = 1 := by rw [← hd1]; rfl
          rw [hd1] at CP5
          clear hd1
          go_upto_region 11 with (first
            | (go_at_call 22; refine CP5.mono ?_; clear CP5; rintro e w6 ⟨rfl, k6⟩; have hx6 := k6.bk HX5.out (by omega) (by simp); have x0 := (hx6).cell 0 (u := .int .i64 k) rfl; have x1 := (hx6).cell 1 (u := .int .i64 m) rfl; have x2 := (hx6).cell 2 (u := .int .i64 a) rfl; have x3 := (hx6).cell 3 (u := .int .i64 b) rfl; have x4 := (hx6).cell 4 (u := .bool g) rfl; have x5 := (hx6).cell 5 (u := .string s) rfl; have x6 := (hx6).cell 6 (u := .slice sa sl sc) rfl; have x7 := (hx6).cell 7 (u := .slice ao nk cap) rfl; have CN := HDC.out hd _ w.heap.size pb d1 none w5 w6 k6 HV5.out (by omega) (by omega) (fun x e => by cases e) (by omega); clear hx6 k6))
          go_upto_region 12 with (first
            | (go_at_call 23; refine CN.mono ?_; clear CN x0 x1 x2 x3 x4 x5 x6 x7; rintro e w7 ⟨rfl, d2, k7, hnx⟩; have HNX : Hid (Nx d1 d2 (pcN t) (5001 + 6 * t.sz)) := hnx; have hd2 : d2.1.length ≤ 10000 := (by have := hnx.2.2; omega); have CP7 := put_d k7 4 1 0 0 0 none 0 0 [] (qo_nil _) (by omega); clear k7 hnx))
          obtain ⟨d3, hd3⟩ : ∃ d3 : Pc (List R), putP d2 [⟨4, 1, 0, 0, 0, []⟩] = d3 := ⟨_, rfl⟩
          have HD3 : Hid (d3 = putP d2 [ins [] 4 1 0]) := hd3.symm
          have hl3 : d3.1.length = d2.1.length + 1 := by rw [← hd3, len_putP]; rfl
          rw [hd3] at CP7
          clear hd3
          go_upto_region 13 with (first
            | (go_at_call 22; refine CP7.mono ?_; clear CP7; rintro e w8 ⟨rfl, k8⟩; have CP8 := put_d k8 12 0 0 0 0 none 0 0 [] (qo_nil _) (by omega); clear k8))
          obtain ⟨d4, hd4⟩ : ∃ d4 : Pc (List R), putP d3 [⟨12, 0, 0, 0, 0, []⟩] = d4 := ⟨_, rfl⟩
          have HD4 : Hid (d4 = putP d3 [ins [] 12 0 0]) := hd4.symm
          have hl4' : d4.1.length = d2.1.length + 2 := by rw [← hd4, len_putP, hl3]; rfl
          rw [hd4] at CP8
          clear hd4
          go_upto_region 14 with (first
            | (go_at_call 22; refine CP8.mono ?_; clear CP8; rintro e w9 ⟨rfl, k9⟩))
          have CF := full_d pb d4 none hd w5 w9 k9
          have HB9 : Hid (Below w.heap.size w w9) := HB5.out.trans (k9.below (by omega) (by omega) (fun x e => by cases e))
          have HR9 : Hid (Bk w9 (w.heap.size + 1 + 1) #[.slice none 0 0, .int .i64 0, .int .i64 0, .slice none 0 0, .bool false, .bool false, .bool false, .int .i64 0] 34) := k9.bk HR5.out (by omega) (by simp)
          have HNR9 : Hid (w9.ownsRow w.heap.size 9 1 (.slice va (mn + 1) vc) (mn + 1) (((gN t G0).names.take (mn + 1)).map Value.string)) := HE5.out.own (fun _ _ _ _ _ => by simp) k9 HNR5.out (by decide) (by decide)
          by_cases hfull : 5000 < d4.1.length
          · rw [decide_eq_true hfull] at CF
            obtain rfl : E = 190 := by
              rw [← HE4.out, if_pos]
              rcases HNX.out.1 with hx | hx
              · rw [hx, len_addP] at hl4'; omega
              · omega
            clear HE4 k9
            go_wp2_with (first
              | (go_at_call 24; refine CF.mono ?_; clear CF; rintro e w10 ⟨rfl, hw10⟩; obtain rfl := hw10.symm; clear hw10)
              | (refine wpList_store_row rfl 34 _ _ rfl (w.heap.size + 1 + 1) #[.slice none 0 0, .int .i64 0, .int .i64 0, .slice none 0 0, .bool false, .bool false, .bool false, .int .i64 0] rfl rfl _ _ HR9.out infPr rfl zpr_one ?_))
            refine bodyPost_ret (results_row_tmp Tryz.results7 _ _ (w.heap.size + 1 + 1) _ #[.slice none 0 0, .int .i64 0, .int .i64 0, .slice none 0 0, .bool false, .bool false, .bool false, .int .i64 0] _ _ rfl (setRow_heap _ _ _ _ _ _ HR9.out) Tryz.underlying34 rfl infPr) rfl ?_
            first | exact ⟨below_setRow (HB9.out) (by omega) _, .inl ⟨by decide, rfl⟩⟩ | exact ⟨below_setRow (HB9.out) (by omega) _, rfl⟩
          · rw [decide_eq_false hfull] at CF
            have hx : d2 = addP d1 (pcN t) := by
              rcases HNX.out.1 with hx | hx
              · exact hx
              · omega
            obtain rfl : E = 0 := by
              rw [← HE4.out, if_neg]
              rw [hx, len_addP] at hl4'; omega
            have hprn : d4 = prN t := by rw [HD4.out, HD3.out, hx, HD1.out]; exact doc_prog (pcN t)
            obtain ⟨vv, p, bk9, ow9, rl9, _⟩ := k9.row
            obtain ⟨ka, kc, rfl, hcr, hnil, hle, _⟩ := own_cr ow9 rfl
            rw [hprn] at bk9 rl9
            obtain ⟨kn, hkn⟩ : ∃ kn, p.length = kn := ⟨_, rfl⟩
            rw [hkn] at bk9 hle
            obtain ⟨mk, hmk⟩ : ∃ mk, (prN t).2 = mk := ⟨_, rfl⟩
            rw [hmk] at bk9
            have HMK : Hid ((prN t).2 = mk) := hmk
            rw [HHD.out] at bk9
            have b0 := (bk9).cell 0 (u := .slice ka kn kc) rfl; have b1 := (bk9).cell 1 (u := .int .i64 (mn : Int)) rfl; have b2 := (bk9).cell 2 (u := .int .i64 mk) rfl; have b3 := (bk9).cell 3 (u := .slice va (mn + 1) vc) rfl; have b4 := (bk9).cell 4 (u := .bool o0) rfl; have b5 := (bk9).cell 5 (u := .bool o1) rfl; have b6 := (bk9).cell 6 (u := .bool o2) rfl; have b7 := (bk9).cell 7 (u := .int .i64 o3) rfl
            have HCR : Hid (CR w9 ka p) := hcr
            have HONE : Hid ((#[.slice ka kn kc, .int .i64 (mn : Int), .int .i64 mk, .slice va (mn + 1) vc, .bool o0, .bool o1, .bool o2, .int .i64 o3] : Array Value).all (·.oneCell') = true) := by unfold Hid; kernel_rfl
            have HRL : Hid (RL (QO w9) p (prN t).1) := rl9
            have HKN : Hid (p.length = kn) := hkn
            have HLE : Hid (kn ≤ kc) := hle
            have HNIL : Hid (ka = none → kc = 0) := hnil
            have HLT : Hid (∀ x, ka = some x → p ≠ [] → x.block ≠ w.heap.size + 1 + 1) := fun x e hne0 e2 => by
              have hrn := row_ne ow9 HR9.out (by decide) (g := x.block) (by rw [e]; rfl)
              exact hrn e2
            clear HE4 k9 bk9 ow9 rl9 hcr hprn hx hkn hmk hle hnil HNX HD1 HD3 HD4 hl3 hl4' hfull HHD
            go_wp2_with (first
              | (go_at_call 24; refine CF.mono ?_; clear CF; rintro e w10 ⟨rfl, hw10⟩; obtain rfl := hw10.symm; clear hw10)
              | (refine wpList_store_row rfl 34 _ _ rfl (w.heap.size + 1 + 1) #[.slice ka kn kc, .int .i64 (mn : Int), .int .i64 mk, .slice va (mn + 1) vc, .bool o0, .bool o1, .bool o2, .int .i64 o3] rfl rfl _ _ HR9.out infPr rfl HONE.out ?_))
            refine bodyPost_ret (results_row_tmp Tryz.results8 _ _ (w.heap.size + 1 + 1) _ #[.slice ka kn kc, .int .i64 (mn : Int), .int .i64 mk, .slice va (mn + 1) vc, .bool o0, .bool o1, .bool o2, .int .i64 o3] _ _ rfl (setRow_heap _ _ _ _ _ _ HR9.out) Tryz.underlying34 rfl infPr) rfl ?_
            refine ⟨below_setRow HB9.out (by omega) _, ka, kn, kc, p, va, mn, HMN.out, hmn2, vc, by rw [HMK.out]; rfl, HKN.out, HLE.out, ?_, ?_, HNIL.out, ?_⟩
            · exact HCR.out.keep fun b' off' e' h0 _ => setRow_other _ _ _ _ (HLT.out _ e' (fun e => by rw [e] at h0; simp at h0))
            · exact HRL.out.imp fun s' l' q' => World.ownsRow.kept q' (grown_row _ _ _) (own_bk q' HR9.out (by decide))
            · rw [← List.map_take]; exact HNR9.out.kept (grown_row _ _ _) (own_bk HNR9.out HR9.out (by decide))
end Go.Proofs.YtjbcapnpknbbaaaGreat.cmp
