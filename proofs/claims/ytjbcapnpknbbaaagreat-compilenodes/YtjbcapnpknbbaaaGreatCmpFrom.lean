/- walk.from over the maker: the piece of any tree of sets. -/
import Derived.Test.YtjbcapnpknbbaaaGreatBndCmpMk
import Derived.Deep.RegionHeld3
import Derived.Deep.RegionWith
import Derived.Deep.LoopGhost
import Derived.Deep.CutBlock
import Derived.Maps.AppendAt
set_option linter.unusedVariables false
set_option linter.unusedSimpArgs false
namespace Go.Proofs.YtjbcapnpknbbaaaGreat.cmp
open Go.RowKit nod
open Go.Proofs.YtjbcapnpknbbaaaGreat.wid (ofN)
open Go.Proofs.YtjbcapnpknbbaaaGreat.low (standP kidsP)
open Go.Proofs.YtjbcapnpknbbaaaGreat.rng (R RV info_parts)

open Go.Proofs.YtjbcapnpknbbaaaGreat.low (plN plL plL_all len_szL setsN setsL)
/-- A slice that reads as a set, in blocks below B. -/
def QS (B : Nat) (w : World) (s : SV) (l : List R) : Prop := RV w s.1 l ∧ s.2.1 = l.length ∧ (∀ x, s.1 = some x → l ≠ [] → x.block < B) ∧ l.length ≤ s.2.2 ∧ s.2.2 ≤ maxLen ∧ (s.1 = none → s.2.2 = 0) ∧ l.length ≤ 8796093021952
theorem QS.below {B : Nat} {w w' : World} {s : SV} {l : List R} (h : QS B w s l) (hb : Below B w w') : QS B w' s l := ⟨rv_below h.1 h.2.2.1 hb, h.2⟩
theorem qs_nil (B : Nat) (w : World) : QS B w sn [] := ⟨.inl rfl, rfl, fun x e => (by cases e), Nat.le_refl _, Nat.zero_le _, fun _ => rfl, Nat.zero_le _⟩
theorem RL.imp {α β : Type} {Q Q' : α → β → Prop} (f : ∀ a b, Q a b → Q' a b) {l r} (h : RL Q l r) : RL Q' l r := by
  induction h with
  | nil => exact .nil
  | cons a _ ih => exact .cons ⟨a.op, a.x, a.y, a.mn, a.mx, f _ _ a.set⟩ ih
theorem RP.imp {α β : Type} {Q Q' : α → β → Prop} (f : ∀ a b, Q a b → Q' a b) {p r} (h : RP Q p r) : RP Q' p r := ⟨h.1.imp f, h.2⟩
theorem RS.imp {α β : Type} {Q Q' : α → β → Prop} (f : ∀ a b, Q a b → Q' a b) {l r} (h : RS Q l r) : RS Q' l r := by
  induction h with
  | nil => exact .nil
  | cons a _ ih => exact .cons (a.imp f) ih
/-- What has come of a tree: its piece, or too much. -/
def Out (B : Nat) (w : World) (t : Nd) (l l' : Int) (p : Pc SV) : Prop := (RP (QS B w) p (pcN t) ∧ l' = l + (pcN t).1.length) ∨ (4997 < l' ∧ 4997 < l + (pcN t).1.length)
/-- What has come of the kids so far. -/
def Outs (B : Nat) (w : World) (ks : List Nd) (l l' : Int) (ps : List (Pc SV)) : Prop := (RS (QS B w) ps (ks.map pcN) ∧ l' = l + lensP (ks.map pcN)) ∨ (4997 < l' ∧ 4997 < l + lensP (ks.map pcN))
theorem outs_snoc {B : Nat} {w : World} {ks : List Nd} {t : Nd} {l l1 l2 : Int} {ps : List (Pc SV)} {p : Pc SV} (h : Outs B w ks l l1 ps) (h2 : Out B w t l1 l2 p) : Outs B w (ks ++ [t]) l l2 (ps ++ [p]) := by
  unfold Outs Out at *
  rw [List.map_append, List.map_cons, List.map_nil, lens_snoc]
  rcases h with ⟨h1, e1⟩ | ⟨h1, e1⟩
  · rcases h2 with ⟨g1, e2⟩ | ⟨g1, e2⟩
    · exact .inl ⟨h1.snoc g1, by omega⟩
    · exact .inr ⟨g1, by omega⟩
  · rcases h2 with ⟨g1, e2⟩ | ⟨g1, e2⟩
    · exact .inr ⟨by omega, by omega⟩
    · exact .inr ⟨g1, by omega⟩
def flat2 (L : List Pp) : List Value := L.flatMap fun q => [.slice q.ka q.kn q.kc, .int .i64 q.p.2]
theorem flat2_len : ∀ L : List Pp, (flat2 L).length = L.length * 2
  | [] => rfl
  | q :: L => by have := flat2_len L; simp [flat2] at *; omega
theorem flat2_snoc (L : List Pp) (q : Pp) : flat2 (L ++ [q]) = flat2 L ++ [.slice q.ka q.kn q.kc, .int .i64 q.p.2] := by simp [flat2]
theorem flat2_get : ∀ (L : List Pp) (i : Nat) (q : Pp), L[i]? = some q → (flat2 L)[i * 2]? = some (.slice q.ka q.kn q.kc) ∧ (flat2 L)[i * 2 + 1]? = some (.int .i64 q.p.2)
  | [], i, p, h => by simp at h
  | x :: l, 0, p, h => by simp at h; subst h; exact ⟨rfl, rfl⟩
  | x :: l, i + 1, p, h => by
    have := flat2_get l i p (by simpa using h)
    rw [show flat2 (x :: l) = .slice x.ka x.kn x.kc :: .int .i64 x.p.2 :: flat2 l from rfl, show (i + 1) * 2 = i * 2 + 1 + 1 from by omega]
    simpa using this
theorem own_lv {w : World} {B n : Nat} {v : Value} {L : List Pp} (h : w.ownsRow B 55 2 v n (flat2 L)) (hn : L.length = n) : ∃ la lc, v = .slice la n lc ∧ LV w la L ∧ n ≤ lc ∧ ∀ x, la = some x → B ≤ x.block := by
  rcases h.2 with ⟨rfl, h0⟩ | ⟨g, cap, cur, rfl, hg, hgg, rest⟩
  · subst h0
    obtain rfl : L = [] := List.length_eq_zero_iff.1 hn
    exact ⟨none, 0, rfl, .inl rfl, Nat.le_refl _, fun x e => by cases e⟩
  · refine ⟨_, _, rfl, .inr ⟨g, 0, rfl, (Array.getElem?_eq_some_iff.1 hgg).1, fun k q hk => ?_⟩, rest.1, fun x e => by cases e; exact hg⟩
    have hkl := (List.getElem?_eq_some_iff.1 hk).1
    have h2 : w.ownsRow B 55 2 (.slice (some ⟨g, 0, none⟩) n cap) n (flat2 L) := h
    obtain ⟨g1, g2⟩ := flat2_get L k q hk
    exact ⟨by have := h2.cellAt (k * 2) (by omega); rw [g1] at this; simpa using this, by have := h2.cellAt (k * 2 + 1) (by omega); rw [g2] at this; simpa using this⟩
theorem infP2 : (Tryz.prog.info? 55).map (fun i => (i.zero, i.size, i.bytes)) = some (some (.agg #[.slice none 0 0, .int .i64 0]), 2, 32) := by kernel_rfl
theorem pv_zero (w : World) (lo : Nat) : PV w lo ⟨none, 0, 0, ([], 0)⟩ := ⟨rfl, .inl rfl, fun x e => (by cases e), fit_zero⟩
theorem rv_back {B : Nat} {w w' : World} {sa : Option Addr} {l : List R} (h : RV w' sa l) (hB : ∀ x, sa = some x → l ≠ [] → x.block < B) (hb : Below B w w') : RV w sa l := by
  rcases h with h | ⟨b, off, rfl, h⟩
  · exact .inl h
  · rcases l with _ | ⟨p, l⟩
    · exact .inl rfl
    · have hlt : b < B := hB _ rfl (by simp)
      refine .inr ⟨b, off, rfl, fun i p hi => ?_⟩
      obtain ⟨h1, h2⟩ := h i p hi
      exact ⟨(World.cell?_of_block (a := ⟨b, off + i * 2, none⟩) (hb.block b hlt)).symm.trans h1, (World.cell?_of_block (a := ⟨b, off + i * 2 + 1, none⟩) (hb.block b hlt)).symm.trans h2⟩
theorem QS.back {B : Nat} {w w' : World} {s : SV} {l : List R} (h : QS B w' s l) (hb : Below B w w') : QS B w s l := ⟨rv_back h.1 h.2.2.1 hb, h.2⟩
theorem Out.back {B : Nat} {w w' : World} {t : Nd} {l l' : Int} {p : Pc SV} (h : Out B w' t l l' p) (hb : Below B w w') : Out B w t l l' p := by
  rcases h with ⟨h1, h2⟩ | h
  · exact .inl ⟨h1.imp fun _ _ q => q.back hb, h2⟩
  · exact .inr h
theorem PV.grown {w w' : World} {lo : Nat} {q : Pp} {row : Option Nat} (h : PV w lo q) (g : w.grownBy w' row) (hr : ∀ x, q.ka = some x → row ≠ some x.block) : PV w' lo q :=
  ⟨h.len, h.cr.keep fun b off e _ hl => g.block b hl (fun e2 => hr _ e e2.symm), fun x e => ⟨(h.at_ x e).1, Nat.lt_of_lt_of_le (h.at_ x e).2 g.size⟩, h.fit⟩
theorem two_new (w : World) (x y : Value) (t : TypeId) : ∀ (j : Nat) (u : Value), [x, y][j]? = some u → (w.alloc (Obj.cells #[x, y] t)).cell? ((⟨w.heap.size, 0, none⟩ : Addr).add j) = some u := by
  intro j u hj
  match j, hj with
  | 0, hj => simp at hj; subst hj; simp [Addr.add]
  | 1, hj => simp at hj; subst hj; simp [Addr.add]
  | k + 2, hj => simp at hj
theorem plain_kids {k m a b : Int} {g : Bool} {n : ByteArray} {s : List R} {ks : List Nd} {d : Int} (h : plN (.mk k m a b g n s ks) d = true) : standP k m a b s ks.length = true ∧ (kidsP k = true → ∀ t ∈ ks, plN t (d + 1) = true) := by
  rw [plN, plL_all] at h
  simp only [Bool.and_eq_true, Bool.or_eq_true, Bool.not_eq_true'] at h
  refine ⟨h.1.2, fun hk t ht => ?_⟩
  rcases h.2 with h2 | h2
  · rw [hk] at h2; cases h2
  · exact List.all_eq_true.1 h2 t ht
theorem goes_rep {k m a b : Int} {s : List R} {nk : Nat} (h : standP k m a b s nk = true) (hg : goes k b = true) : kidsP k = true ∧ (k = 8 → 0 ≤ a ∧ (b = -1 ∨ (a ≤ b ∧ 0 < b))) := by
  unfold goes at hg
  simp only [Bool.and_eq_true, Bool.not_eq_true', Bool.and_eq_false_iff, beq_eq_false_iff_ne] at hg
  refine ⟨hg.1, fun h8 => ?_⟩
  subst h8
  unfold standP at h
  rw [if_neg (by decide), if_neg (by decide), if_neg (by decide), if_pos rfl] at h
  simp only [low.repP, Bool.and_eq_true, Bool.or_eq_true, wi_iff, beq_iff_eq] at h
  obtain ⟨⟨⟨h1, h2⟩, h3⟩, h4⟩ := h
  have hb : b ≠ 0 := by rcases hg.2 with h | h; exact (h rfl).elim; exact h
  omega
set_option maxRecDepth 10000 in
set_option maxHeartbeats 16000000 in
theorem from_pc (mb : Nat) : ∀ (N : Nat) (t : Nd) (v : Value) (above l d : Int) (B : Nat) (w : World), t.sz ≤ N → NV B w t v → B ≤ mb → mb < w.heap.size → Bk w mb #[.int .i64 l] 94 → plN t d = true → setsN t → 0 ≤ l → l ≤ 1000000 → 0 ≤ above → above + N ≤ 1000000000 → N ≤ 900 →
    Calls Tryz.prog 80 #[v, .int .i64 above, .func (.func 52) #[.pointer (some ⟨mb, 0, none⟩)] #[], .func (.func 53) #[.pointer (some ⟨mb, 0, none⟩)] #[]] w fun e w' => ∃ (r : Pp) (l' : Int), e = .returned (.agg #[.slice r.ka r.kn r.kc, .int .i64 r.p.2]) ∧ PV w' w.heap.size r ∧ Kp (some mb) w w' ∧ Bk w' mb #[.int .i64 l'] 94 ∧ 0 ≤ l' ∧ l' ≤ 1000000 ∧ Out B w t l l' r.p := by
  intro N
  induction N with
  | zero => intro t v above l d B w h; obtain ⟨k, m, a, b, g, n, st, ks⟩ := t; rw [Nd.sz] at h; omega
  | succ N ih =>
    intro t v above l d B w hN hv hBm hmb hbk hpl hsets hl0 hl1 ha1 ha2 hN9
    obtain ⟨k, m, a, b, g, s, st, ks, sa, sc, ao, cap, rfl, rfl, _, _, ⟨hrs, hsB, hs1, hs2, hs3⟩, hk1, hk2, _, hkv⟩ := hv.open
    rw [Nd.sz] at hN
    clear hv
    rw [setsN] at hsets
    obtain ⟨hstd, hkids⟩ := plain_kids hpl
    have hks := len_szL ks
    obtain ⟨nk, hnk⟩ : ∃ nk, ks.length = nk := ⟨_, rfl⟩
    have HLk : Hid (ks.length = nk) := hnk
    rw [hnk] at hk1 hstd hks ⊢
    have HQS : Hid (QS B w (sa, st.length, sc) st) := ⟨hrs, rfl, hsB, hs1, hs2, hs3, hsets.1⟩
    have HK : Hid (KV B w ao ks) := hkv
    have HSZ : Hid (szL ks ≤ 100000000) := by unfold Hid; omega
    have HSD : Hid (standP k m a b st nk = true) := hstd
    have HPC : Hid (pcN (.mk k m a b g s st ks) = pieceP [] k m a b st (lkW m ks) (if goes k b then ks.map pcN else [])) := by unfold Hid; rw [pcN, pcL_map]
    have HI : Hid (goes k b = true → ∀ (t : Nd) (v : Value) (q : Int) (W : World), t ∈ ks → NV B W t v → w.heap.size ≤ W.heap.size → Bk W mb #[.int .i64 q] 94 → 0 ≤ q → q ≤ 1000000 → Calls Tryz.prog 80 #[v, .int .i64 (above + 1), .func (.func 52) #[.pointer (some ⟨mb, 0, none⟩)] #[], .func (.func 53) #[.pointer (some ⟨mb, 0, none⟩)] #[]] W fun e w' => ∃ (r : Pp) (l' : Int), e = .returned (.agg #[.slice r.ka r.kn r.kc, .int .i64 r.p.2]) ∧ PV w' W.heap.size r ∧ Kp (some mb) W w' ∧ Bk w' mb #[.int .i64 l'] 94 ∧ 0 ≤ l' ∧ l' ≤ 1000000 ∧ Out B W t q l' r.p) := fun hg t v q W hm hv hs hb h0 h1 => by
      have := szL_mem hm
      exact ih t v (above + 1) q (d + 1) B W (by omega) hv hBm (by omega) hb (hkids (goes_rep hstd hg).1 t hm) (low.sets_mem hsets.2 hm) h0 h1 (by omega) (by omega) (by omega)
    generalize st.length = sl at *
    have HBW : Hid (Below w.heap.size w ((w.alloc (.cells #[.int .i64 k, .int .i64 m, .int .i64 a, .int .i64 b, .bool g, .string s, .slice sa sl sc, .slice ao nk cap] 25)).alloc (.cells #[.slice none 0 0, .int .i64 0] 55))) := below2 _ _ _
    have HX : Hid (Bk ((w.alloc (.cells #[.int .i64 k, .int .i64 m, .int .i64 a, .int .i64 b, .bool g, .string s, .slice sa sl sc, .slice ao nk cap] 25)).alloc (.cells #[.slice none 0 0, .int .i64 0] 55)) w.heap.size #[.int .i64 k, .int .i64 m, .int .i64 a, .int .i64 b, .bool g, .string s, .slice sa sl sc, .slice ao nk cap] 25) := (Bk.new w _ _).past _
    have HR : Hid (Bk ((w.alloc (.cells #[.int .i64 k, .int .i64 m, .int .i64 a, .int .i64 b, .bool g, .string s, .slice sa sl sc, .slice ao nk cap] 25)).alloc (.cells #[.slice none 0 0, .int .i64 0] 55)) (w.heap.size + 1) #[.slice none 0 0, .int .i64 0] 55) := bk2
    have HM0 : Hid (Bk ((w.alloc (.cells #[.int .i64 k, .int .i64 m, .int .i64 a, .int .i64 b, .bool g, .string s, .slice sa sl sc, .slice ao nk cap] 25)).alloc (.cells #[.slice none 0 0, .int .i64 0] 55)) mb #[.int .i64 l] 94) := (hbk.past _).past _
    have hz : ((w.alloc (.cells #[.int .i64 k, .int .i64 m, .int .i64 a, .int .i64 b, .bool g, .string s, .slice sa sl sc, .slice ao nk cap] 25)).alloc (.cells #[.slice none 0 0, .int .i64 0] 55)).heap.size = w.heap.size + 1 + 1 := by simp
    have CE := enters_any mb l k m a b g s sa sl sc ao nk cap above ((w.alloc (.cells #[.int .i64 k, .int .i64 m, .int .i64 a, .int .i64 b, .bool g, .string s, .slice sa sl sc, .slice ao nk cap] 25)).alloc (.cells #[.slice none 0 0, .int .i64 0] 55)) HM0.out
    obtain ⟨w1, hw1⟩ : ∃ w1, ((w.alloc (.cells #[.int .i64 k, .int .i64 m, .int .i64 a, .int .i64 b, .bool g, .string s, .slice sa sl sc, .slice ao nk cap] 25)).alloc (.cells #[.slice none 0 0, .int .i64 0] 55)) = w1 := ⟨_, rfl⟩
    have HW1 : Hid (((w.alloc (.cells #[.int .i64 k, .int .i64 m, .int .i64 a, .int .i64 b, .bool g, .string s, .slice sa sl sc, .slice ao nk cap] 25)).alloc (.cells #[.slice none 0 0, .int .i64 0] 55)) = w1) := hw1
    rw [hw1] at HBW HX HR HM0 hz CE
    clear hw1 ih hpl hsets hkids hstd hkv hrs hsB hs1 hs2 hs3 hbk
    by_cases hfull : 4997 < l
    · rw [decide_eq_true hfull] at CE
      have HOUT : Hid (Out B w (.mk k m a b g s st ks) l l ([], 0)) := .inr ⟨hfull, by omega⟩
      clear HI HQS HK HSZ HSD HPC HLk
      go_enter Tryz.func80, Tryz.ntmps80
      go_wp2_with (first
        | (go_at_call 52; (try rw [HW1.out]); refine CE.mono ?_; rintro e w2 ⟨rfl, b2⟩; have B2 : Hid (Below w1.heap.size w1 w2) := b2; have x0 := (HX.out.on b2).cell 0 (u := .int .i64 k) rfl; have x1 := (HX.out.on b2).cell 1 (u := .int .i64 m) rfl; have x2 := (HX.out.on b2).cell 2 (u := .int .i64 a) rfl; have x3 := (HX.out.on b2).cell 3 (u := .int .i64 b) rfl; have x4 := (HX.out.on b2).cell 4 (u := .bool g) rfl; have x5 := (HX.out.on b2).cell 5 (u := .string s) rfl; have x6 := (HX.out.on b2).cell 6 (u := .slice sa sl sc) rfl; have x7 := (HX.out.on b2).cell 7 (u := .slice ao nk cap) rfl; have CJ := join_full mb l k m a b g s sa sl sc ao nk cap (.slice none 0 0) w2 (HM0.out.on b2) hfull; clear b2 CE)
        | (go_at_call 53; refine CJ.mono ?_; rintro e w3 ⟨rfl, b3⟩; have B3 : Hid (Below w1.heap.size w1 w3) := B2.out.trans (below_less b3 B2.out.size); have HR3 : Hid (Bk w3 (w.heap.size + 1) #[.slice none 0 0, .int .i64 0] 55) := HR.out.on B3.out; have t0 := HR3.out.cell 0 (u := .slice none 0 0) rfl; have t1 := HR3.out.cell 1 (u := .int .i64 0) rfl; have f0 := HR3.out.frozen 0; have f1 := HR3.out.frozen 1; clear b3 CJ))
      refine bodyPost_ret (results_cell_row Tryz.results80 _ _ (w.heap.size + 1) _ #[.slice none 0 0, .int .i64 0] _ _ rfl (HR3.out.set2 _ _) Tryz.underlying55 rfl infP) rfl ?_
      exact ⟨⟨none, 0, 0, ([], 0)⟩, l, rfl, pv_zero _ _, Kp.of_below (((HBW.out.trans (below_less B3.out (by omega))).setCell (p := ⟨w.heap.size + 1, 0, none⟩) (by simp) _).setCell (p := ⟨w.heap.size + 1, 1, none⟩) (by simp) _), (((HM0.out.on B3.out).apart (by omega) _).apart (by omega) _), hl0, hl1, HOUT.out⟩
    · rw [decide_eq_false hfull] at CE
      simp only [Bool.not_false, Bool.true_and] at CE
      cases hg : goes k b with
      | false =>
        rw [hg] at CE HPC
        have hk7 : ¬ k = 7 := fun e => by subst e; simp [goes, kidsP] at hg
        have HRP : Hid (RP (QS B w) (pieceP sn k m a b (sa, sl, sc) (lkW m ks) (ps [])) (pcN (.mk k m a b g s st ks))) := by
          unfold Hid; rw [HPC.out]; exact RS.piece (qs_nil B w) k m a b HQS.out (lkW m ks) .nil
        have hle := len_piece_le k m a b st nk (sa, sl, sc) (lkW m ks) (ps []) HSD.out (by simp [ps, lensP]) (by simp [ps])
        have HLE : Hid ((pieceP sn k m a b (sa, sl, sc) (lkW m ks) (ps [])).1.length ≤ 610000) := hle
        have HJ : Hid (∀ W, Below w1.heap.size w1 W → Calls Tryz.prog 53 #[.pointer (some ⟨mb, 0, none⟩), .agg #[.int .i64 k, .int .i64 m, .int .i64 a, .int .i64 b, .bool g, .string s, .slice sa sl sc, .slice ao nk cap], .slice none 0 0] W fun e w' => ∃ r : Pp, e = .returned (.agg #[.slice r.ka r.kn r.kc, .int .i64 r.p.2]) ∧ r.p = pieceP sn k m a b (sa, sl, sc) (lkW m ks) (ps []) ∧ PV w' W.heap.size r ∧ Kp (some mb) W w' ∧ Bk w' mb #[.int .i64 (l + r.kn - lensP (ps []))] 94) := fun W h =>
          join_ok mb l k m a b g s sa sl sc ao nk cap none 0 0 [] W rfl (.inl rfl) (fun q hq => by cases hq) (by simp [ps, lensP]) (by omega) (by omega) st ks B HSD.out (fun e => (hk7 e).elim) HLk HSZ.out (by have := h.size; omega) (by unfold Hid; exact HK.out.below (below_less (HBW.out.trans (below_less h (by omega))) (by omega))) (HM0.out.on h) hl0 hfull (fun x e => by cases e)
        clear HI HQS HK HSZ HSD HPC HLk hg hle hk7
        go_enter Tryz.func80, Tryz.ntmps80
        go_wp2_with (first
          | (go_at_call 52; (try rw [HW1.out]); refine CE.mono ?_; rintro e w2 ⟨rfl, b2⟩; have B2 : Hid (Below w1.heap.size w1 w2) := b2; have x0 := (HX.out.on b2).cell 0 (u := .int .i64 k) rfl; have x1 := (HX.out.on b2).cell 1 (u := .int .i64 m) rfl; have x2 := (HX.out.on b2).cell 2 (u := .int .i64 a) rfl; have x3 := (HX.out.on b2).cell 3 (u := .int .i64 b) rfl; have x4 := (HX.out.on b2).cell 4 (u := .bool g) rfl; have x5 := (HX.out.on b2).cell 5 (u := .string s) rfl; have x6 := (HX.out.on b2).cell 6 (u := .slice sa sl sc) rfl; have x7 := (HX.out.on b2).cell 7 (u := .slice ao nk cap) rfl; have CJ := HJ.out w2 b2; clear b2 CE)
          | (go_at_call 53; refine CJ.mono ?_; rintro e w3 ⟨r, rfl, hr, hv, hk, hb⟩; have HRR : Hid (r.p = pieceP sn k m a b (sa, sl, sc) (lkW m ks) (ps []) ∧ PV w3 w2.heap.size r ∧ Kp (some mb) w2 w3 ∧ Bk w3 mb #[.int .i64 (l + r.kn - lensP (ps []))] 94) := ⟨hr, hv, hk, hb⟩; have HR3 : Hid (Bk w3 (w.heap.size + 1) #[.slice none 0 0, .int .i64 0] 55) := (HR.out.on B2.out).kp hk (fun e => by cases e; omega); have t0 := HR3.out.cell 0 (u := .slice none 0 0) rfl; have t1 := HR3.out.cell 1 (u := .int .i64 0) rfl; have f0 := HR3.out.frozen 0; have f1 := HR3.out.frozen 1; clear hr hv hk hb CJ))
        refine bodyPost_ret (results_cell_row Tryz.results80 _ _ (w.heap.size + 1) _ #[.slice r.ka r.kn r.kc, .int .i64 r.p.2] _ _ rfl (HR3.out.set2 _ _) Tryz.underlying55 rfl infP) rfl ?_
        obtain ⟨hr, hv, hk, hb⟩ := HRR.out
        have hs2 := B2.out.size
        have hkn : (r.kn : Int) = (pcN (.mk k m a b g s st ks)).1.length := by rw [← hv.len, hr, HRP.out.len]
        have hkl : r.kn ≤ 610000 := by rw [← hv.len, hr]; exact HLE.out
        have hps : lensP (ps []) = 0 := by simp [ps, lensP]
        refine ⟨r, _, rfl, ((hv.set (by omega) 0 _).set (by omega) 1 _).wide (by omega), (((Kp.of_below (HBW.out.trans (below_less B2.out (by omega)))).trans hk).setCell (p := ⟨w.heap.size + 1, 0, none⟩) (.inl (by simp)) _).setCell (p := ⟨w.heap.size + 1, 1, none⟩) (.inl (by simp)) _, ((hb.apart (by omega) _).apart (by omega) _), by rw [hps]; omega, by rw [hps]; omega, .inl ⟨by rw [hr]; exact HRP.out, by rw [hps, ← hkn]; omega⟩⟩
      | true =>
        rw [hg] at CE HPC
        have HII := HI.out hg
        have HI2 : Hid (∀ (t : Nd) (v : Value) (q : Int) (W : World), t ∈ ks → NV B W t v → w.heap.size ≤ W.heap.size → Bk W mb #[.int .i64 q] 94 → 0 ≤ q → q ≤ 1000000 → Calls Tryz.prog 80 #[v, .int .i64 (above + 1), .func (.func 52) #[.pointer (some ⟨mb, 0, none⟩)] #[], .func (.func 53) #[.pointer (some ⟨mb, 0, none⟩)] #[]] W fun e w' => ∃ (r : Pp) (l' : Int), e = .returned (.agg #[.slice r.ka r.kn r.kc, .int .i64 r.p.2]) ∧ PV w' W.heap.size r ∧ Kp (some mb) W w' ∧ Bk w' mb #[.int .i64 l'] 94 ∧ 0 ≤ l' ∧ l' ≤ 1000000 ∧ Out B W t q l' r.p) := HII
        obtain ⟨hkp, h8⟩ := goes_rep HSD.out hg
        have HGE : Hid (lensP (ks.map pcN) ≤ (pcN (.mk k m a b g s st ks)).1.length) := by
          unfold Hid; rw [HPC.out, if_pos rfl]; exact len_piece_ge [] k m a b st (lkW m ks) (ks.map pcN) hkp h8
        rw [if_pos rfl] at HPC
        have HN0 : Hid (0 < nk ∨ ¬ k = 7) := by
          unfold Hid
          by_cases h7 : k = 7
          · subst h7
            have := HSD.out
            unfold standP at this
            rw [if_neg (by decide), if_neg (by decide), if_pos rfl] at this
            exact .inl (of_decide_eq_true this)
          · exact .inr h7
        clear HI HII hg hkp h8
        have hk3 : nk ≤ 900 := by omega
        go_enter Tryz.func80, Tryz.ntmps80
        go_wp2_with (go_at_call 52; (try rw [HW1.out]); refine CE.mono ?_; rintro e w2 ⟨rfl, b2⟩; have B2 : Hid (Below w1.heap.size w1 w2) := b2; have q7 := (HX.out.on b2).cell 7 (u := .slice ao nk cap) rfl; clear b2 CE)
        have hs2 := B2.out.size
        have HX2 : Hid (Bk w2 w.heap.size #[.int .i64 k, .int .i64 m, .int .i64 a, .int .i64 b, .bool g, .string s, .slice sa sl sc, .slice ao nk cap] 25) := HX.out.on B2.out
        have HR2 : Hid (Bk w2 (w.heap.size + 1) #[.slice none 0 0, .int .i64 0] 55) := HR.out.on B2.out
        have HM2 : Hid (Bk w2 mb #[.int .i64 l] 94) := HM0.out.on B2.out
        have HK2 : Hid (Kp (some mb) w w2) := Kp.of_below (HBW.out.trans (below_less B2.out (by omega)))
        have HO0 : Hid (w2.ownsRow (w.heap.size + 1 + 1) 55 2 (.slice none 0 0) 0 (flat2 [])) := World.ownsRow_nil _ _ _ _
        obtain ⟨i0, hi, hz0, hz1, hz2⟩ := info_parts infP2
        go_loopg [9, 19] nk (fun gk vv i wr => ∃ (j : Nat) (pp : List Pp) (lj : Int), j + gk = nk ∧ i = .int .i64 j ∧ Hid (pp.length = j) ∧ wr.ownsRow (w.heap.size + 1 + 1) 55 2 vv j (flat2 pp) ∧ Hid (Kp (some mb) w wr) ∧ Hid (Bk wr w.heap.size #[.int .i64 k, .int .i64 m, .int .i64 a, .int .i64 b, .bool g, .string s, .slice sa sl sc, .slice ao nk cap] 25) ∧ Hid (Bk wr (w.heap.size + 1) #[.slice none 0 0, .int .i64 0] 55) ∧ Hid (Bk wr mb #[.int .i64 lj] 94) ∧ 0 ≤ lj ∧ lj ≤ 1000000 ∧ Hid (∀ q ∈ pp, PV wr w.heap.size q ∧ ∀ x, q.ka = some x → vv.ownBlock ≠ some x.block) ∧ Hid (Outs B w (ks.take j) l lj (ps pp)) ∧ w.heap.size + 1 + 1 ≤ wr.heap.size)
        case atStart => exact ⟨0, [], l, by omega, rfl, rfl, HO0.out, HK2, HX2, HR2, HM2, hl0, hl1, fun q hq => (by cases hq), .inl ⟨.nil, by simp [lensP]⟩, by omega⟩
        case round =>
          obtain ⟨j, pp, lj, hj, rfl, HPL, hown, HKr, HXr, HRr, HMr, h0, h1, HPV, HOU, hsz⟩ := hrel
          clear HO0 HK2 HX2 HR2 HM2 q7
          by_cases hlt : j < nk
          · obtain ⟨t, ht⟩ := getX HLk.out hlt
            have hbelr : Below B w wr := HKr.out.below (by omega) (fun x e => (by cases e; exact hBm))
            obtain ⟨bb, off, rfl, hka⟩ := (HK.out.below hbelr).some (by have := HLk.out; omega)
            obtain ⟨k', m', a', b', g', n', s', kk, sa', sc', ao', cap', rfl, ⟨e0, e1, e2, e3, e4, e5, e6, e7⟩, hv'⟩ := hka.kid ht
            have hmem := List.mem_of_getElem? ht
            have HTK : Hid (ks.take (j + 1) = ks.take j ++ [.mk k' m' a' b' g' n' s' kk]) := takeX ht
            generalize s'.length = sl' at *
            generalize kk.length = nk' at *
            have W1 : Below wr.heap.size wr (wr.alloc (.cells #[.int .i64 k', .int .i64 m', .int .i64 a', .int .i64 b', .bool g', .string n', .slice sa' sl' sc', .slice ao' nk' cap'] 25)) := (Below.refl _ wr).alloc (Nat.le_refl _) _
            have C := HI2.out _ _ lj (wr.alloc (.cells #[.int .i64 k', .int .i64 m', .int .i64 a', .int .i64 b', .bool g', .string n', .slice sa' sl' sc', .slice ao' nk' cap'] 25)) hmem (hv'.keep (below_less W1 (by omega))) (by simp; omega) (HMr.out.past _) h0 h1
            have HBB : Hid (Below B w (wr.alloc (.cells #[.int .i64 k', .int .i64 m', .int .i64 a', .int .i64 b', .bool g', .string n', .slice sa' sl' sc', .slice ao' nk' cap'] 25))) := hbelr.alloc (by omega) _
            have HKa : Hid (Kp (some mb) w (wr.alloc (.cells #[.int .i64 k', .int .i64 m', .int .i64 a', .int .i64 b', .bool g', .string n', .slice sa' sl' sc', .slice ao' nk' cap'] 25))) := HKr.out.alloc _
            have HXa : Hid (Bk (wr.alloc (.cells #[.int .i64 k', .int .i64 m', .int .i64 a', .int .i64 b', .bool g', .string n', .slice sa' sl' sc', .slice ao' nk' cap'] 25)) w.heap.size #[.int .i64 k, .int .i64 m, .int .i64 a, .int .i64 b, .bool g, .string s, .slice sa sl sc, .slice (some ⟨bb, off, none⟩) nk cap] 25) := HXr.out.past _
            have HRa : Hid (Bk (wr.alloc (.cells #[.int .i64 k', .int .i64 m', .int .i64 a', .int .i64 b', .bool g', .string n', .slice sa' sl' sc', .slice ao' nk' cap'] 25)) (w.heap.size + 1) #[.slice none 0 0, .int .i64 0] 55) := HRr.out.past _
            have HOa : Hid ((wr.alloc (.cells #[.int .i64 k', .int .i64 m', .int .i64 a', .int .i64 b', .bool g', .string n', .slice sa' sl' sc', .slice ao' nk' cap'] 25)).ownsRow (w.heap.size + 1 + 1) 55 2 u9 j (flat2 pp)) := hown.alloc _
            have HPa : Hid (∀ q ∈ pp, PV (wr.alloc (.cells #[.int .i64 k', .int .i64 m', .int .i64 a', .int .i64 b', .bool g', .string n', .slice sa' sl' sc', .slice ao' nk' cap'] 25)) w.heap.size q ∧ ∀ x, q.ka = some x → u9.ownBlock ≠ some x.block) := fun q hq => ⟨(HPV.out q hq).1.on W1, (HPV.out q hq).2⟩
            have hza : (wr.alloc (.cells #[.int .i64 k', .int .i64 m', .int .i64 a', .int .i64 b', .bool g', .string n', .slice sa' sl' sc', .slice ao' nk' cap'] 25)).heap.size = wr.heap.size + 1 := by simp
            clear hka hv' ht hmem W1 HKr HXr HRr HMr HPV HI2 hbelr hown
            obtain ⟨wa, hwa⟩ : ∃ wa, wr.alloc (.cells #[.int .i64 k', .int .i64 m', .int .i64 a', .int .i64 b', .bool g', .string n', .slice sa' sl' sc', .slice ao' nk' cap'] 25) = wa := ⟨_, rfl⟩
            have HWA : Hid (wr.alloc (.cells #[.int .i64 k', .int .i64 m', .int .i64 a', .int .i64 b', .bool g', .string n', .slice sa' sl' sc', .slice ao' nk' cap'] 25) = wa) := hwa
            rw [hwa] at C HBB HKa HXa HRa HOa HPa hza
            clear hwa
            go_wp2_with (first
              | (go_at_call 80; rw [HWA.out]; refine C.mono ?_; rintro e w3 ⟨r, l', rfl, hv, hk, hb, g0, g1, hou⟩; have HC3 : Hid (PV w3 wa.heap.size r ∧ Kp (some mb) wa w3 ∧ Bk w3 mb #[.int .i64 l'] 94 ∧ 0 ≤ l' ∧ l' ≤ 1000000 ∧ Out B wa (.mk k' m' a' b' g' n' s' kk) lj l' r.p) := ⟨hv, hk, hb, g0, g1, hou⟩; have own3 := own_kp HOa.out hk (fun x e => by cases e; omega); clear hv hk hb g0 g1 hou C)
              | (at_builtin; refine wpList_append_own_at _ rfl _ _ 116 rfl (w.heap.size + 1 + 1) 55 i0 (.agg #[.slice none 0 0, .int .i64 0]) 2 32 Tryz.underlying116 hi hz0 hz1 hz2 rfl (by decide) _ _ _ rfl (own3.alloc _) ⟨w3.heap.size, 0, none⟩ 1 1 [.slice r.ka r.kn r.kc, .int .i64 r.p.2] rfl rfl ?c1 ?c2 ?c3 ?c4 ?c5 ?_))
            case c1 => exact two_new w3 _ _ _
            case c2 => intro u hu; simp at hu; rcases hu with rfl | rfl <;> rfl
            case c3 => unfold maxLen; omega
            case c4 => omega
            case c5 => have := HC3.out.2.1.size; simp; omega
            · intro v' w4 hown4 hgrow _ hat
              obtain ⟨hv, hk, hb, g0, g1, hou⟩ := HC3.out
              have hs3 := hk.size
              have KA : Below (w.heap.size + 1 + 1) w3 w4 := Below.grown ((Below.refl _ w3).alloc (by omega) _) hgrow (by simp; omega) (fun z e => (own3.lt _ e).1)
              have RK : Hid (Kp (some mb) w w4) := (HKa.out.trans hk).then (below_less KA (by omega))
              have RX : Hid (Bk w4 w.heap.size #[.int .i64 k, .int .i64 m, .int .i64 a, .int .i64 b, .bool g, .string s, .slice sa sl sc, .slice (some ⟨bb, off, none⟩) nk cap] 25) := (HXa.out.kp hk (fun e => by cases e; omega)).keep KA (by omega)
              have RR : Hid (Bk w4 (w.heap.size + 1) #[.slice none 0 0, .int .i64 0] 55) := (HRa.out.kp hk (fun e => by cases e; omega)).keep KA (by omega)
              have RM : Hid (Bk w4 mb #[.int .i64 l'] 94) := hb.keep KA (by omega)
              have RO : w4.ownsRow (w.heap.size + 1 + 1) 55 2 v' (j + 1) (flat2 (pp ++ [r])) := by rw [flat2_snoc]; exact hown4
              have hul : ∀ y, u9.ownBlock = some y → y < wa.heap.size := fun y e => (HOa.out.lt _ e).2
              have B3 : Below w3.heap.size w3 (w3.alloc (.cells #[.slice r.ka r.kn r.kc, .int .i64 r.p.2] 55)) := (Below.refl _ w3).alloc (Nat.le_refl _) _
              have RP1 : Hid (∀ q ∈ pp ++ [r], PV w4 w.heap.size q ∧ ∀ x, q.ka = some x → v'.ownBlock ≠ some x.block) := fun q hq => by
                have key : PV w3 w.heap.size q ∧ ∀ x, q.ka = some x → u9.ownBlock ≠ some x.block := by
                  rcases List.mem_append.1 hq with hq | hq
                  · exact ⟨(HPa.out q hq).1.kp hk (fun x e => by cases e; omega), (HPa.out q hq).2⟩
                  · simp at hq; subst hq
                    exact ⟨hv.wide (by omega), fun x e f => by have h1 := hul _ f; have h2 := (hv.at_ x e).1; omega⟩
                refine ⟨(key.1.on B3).grown hgrow key.2, fun x e f => ?_⟩
                rcases hat with h | h
                · exact key.2 x e (h.symm.trans f)
                · rw [h] at f
                  have h2 := (key.1.at_ x e).2
                  have f2 : w3.heap.size + 1 = x.block := by simpa using f
                  omega
              have ROU : Hid (Outs B w (ks.take (j + 1)) l l' (ps (pp ++ [r]))) := by
                have := outs_snoc HOU.out (hou.back HBB.out)
                unfold Hid; rw [HTK.out]; simpa [ps] using this
              have RL1 : Hid ((pp ++ [r]).length = j + 1) := by unfold Hid; rw [List.length_append, HPL.out]; rfl
              have RZ : w.heap.size + 1 + 1 ≤ w4.heap.size := Nat.le_trans (by omega) KA.size
              clear hown4 hgrow hat KA B3 hul hv hk hb hou HC3 own3 HOa HPa HOU HPL HTK HKa HXa HRa
              go_wp2
              go_roundg (gk - 1)
              case measure => omega
              case rel => exact ⟨j + 1, pp ++ [r], l', by omega, by go_num, RL1, RO, RK, RX, RR, RM, g0, g1, RP1, ROU, RZ⟩
          · obtain rfl : j = nk := by omega
            have htk : ks.take j = ks := List.take_of_length_le (by have := HLk.out; omega)
            rw [htk] at HOU
            obtain ⟨la, lc, rfl, hlv, hlc, hlb⟩ := own_lv hown HPL.out
            have x0 := HXr.out.cell 0 (u := .int .i64 k) rfl
            have x1 := HXr.out.cell 1 (u := .int .i64 m) rfl
            have x2 := HXr.out.cell 2 (u := .int .i64 a) rfl
            have x3 := HXr.out.cell 3 (u := .int .i64 b) rfl
            have x4 := HXr.out.cell 4 (u := .bool g) rfl
            have x5 := HXr.out.cell 5 (u := .string s) rfl
            have x6 := HXr.out.cell 6 (u := .slice sa sl sc) rfl
            have x7 := HXr.out.cell 7 (u := .slice ao j cap) rfl
            have hwr := HKr.out.size
            by_cases hfl : 4997 < lj
            · have HOUT : Hid (Out B w (.mk k m a b g s st ks) l lj ([], 0)) := by
                refine .inr ⟨hfl, ?_⟩
                have h2 := HGE.out
                rcases HOU.out with ⟨_, e⟩ | ⟨_, e⟩ <;> omega
              have CJ := join_full mb lj k m a b g s sa sl sc ao j cap (.slice la j lc) wr HMr.out hfl
              clear htk hlv hlb hown HPV HOU HPC HQS HK HSD HGE
              go_wp2_with (go_at_call 53; refine CJ.mono ?_; rintro e w3 ⟨rfl, b3⟩; have B3 : Hid (Below wr.heap.size wr w3) := b3; have HR3 : Hid (Bk w3 (w.heap.size + 1) #[.slice none 0 0, .int .i64 0] 55) := HRr.out.on b3; have t0 := HR3.out.cell 0 (u := .slice none 0 0) rfl; have t1 := HR3.out.cell 1 (u := .int .i64 0) rfl; have f0 := HR3.out.frozen 0; have f1 := HR3.out.frozen 1; clear b3 CJ)
              refine bodyPost_ret (results_cell_row Tryz.results80 _ _ (w.heap.size + 1) _ #[.slice none 0 0, .int .i64 0] _ _ rfl (HR3.out.set2 _ _) Tryz.underlying55 rfl infP) rfl ?_
              exact ⟨⟨none, 0, 0, ([], 0)⟩, lj, rfl, pv_zero _ _, ((HKr.out.then (below_less B3.out (by omega))).setCell (p := ⟨w.heap.size + 1, 0, none⟩) (.inl (by simp)) _).setCell (p := ⟨w.heap.size + 1, 1, none⟩) (.inl (by simp)) _, (((HMr.out.on B3.out).apart (by omega) _).apart (by omega) _), h0, h1, HOUT.out⟩
            · obtain ⟨hrs, hlj⟩ : RS (QS B w) (ps pp) (ks.map pcN) ∧ lj = l + lensP (ks.map pcN) := by
                rcases HOU.out with h | h
                · exact h
                · exact (hfl h.1).elim
              have hle0 : lensP (ps pp) ≤ 5000 := by rw [hrs.lens]; omega
              have HRP : Hid (RP (QS B w) (pieceP sn k m a b (sa, sl, sc) (lkW m ks) (ps pp)) (pcN (.mk k m a b g s st ks))) := by
                unfold Hid; rw [HPC.out]; exact RS.piece (qs_nil B w) k m a b HQS.out (lkW m ks) hrs
              have hle := len_piece_le k m a b st j (sa, sl, sc) (lkW m ks) (ps pp) HSD.out hle0 (by simp [ps]; have := HPL.out; omega)
              have HLE : Hid ((pieceP sn k m a b (sa, sl, sc) (lkW m ks) (ps pp)).1.length ≤ 610000) := hle
              have CJ := join_ok mb lj k m a b g s sa sl sc ao j cap la j lc pp wr HPL.out hlv (fun q hq => (HPV.out q hq).1.wide (Nat.zero_le _)) hle0 (by omega) hlc st ks B HSD.out (fun e => HN0.out.elim id (fun h => (h e).elim)) HLk HSZ.out (by omega) (by unfold Hid; exact HK.out.below (HKr.out.below (by omega) (fun x e => (by cases e; exact hBm)))) HMr.out h0 hfl (fun x e => by have := hlb x e; omega)
              have HLJ : Hid (lj - lensP (ps pp) = l) := by unfold Hid; rw [hrs.lens]; omega
              clear htk hlv hlb hown HPV HOU HPC HQS HK HSD HGE hrs hlj hle
              go_wp2_with (go_at_call 53; refine CJ.mono ?_; rintro e w3 ⟨r, rfl, hr, hv, hk, hb⟩; have HRR : Hid (r.p = pieceP sn k m a b (sa, sl, sc) (lkW m ks) (ps pp) ∧ PV w3 wr.heap.size r ∧ Kp (some mb) wr w3 ∧ Bk w3 mb #[.int .i64 (lj + r.kn - lensP (ps pp))] 94) := ⟨hr, hv, hk, hb⟩; have HR3 : Hid (Bk w3 (w.heap.size + 1) #[.slice none 0 0, .int .i64 0] 55) := HRr.out.kp hk (fun e => by cases e; omega); have t0 := HR3.out.cell 0 (u := .slice none 0 0) rfl; have t1 := HR3.out.cell 1 (u := .int .i64 0) rfl; have f0 := HR3.out.frozen 0; have f1 := HR3.out.frozen 1; clear hr hv hk hb CJ)
              refine bodyPost_ret (results_cell_row Tryz.results80 _ _ (w.heap.size + 1) _ #[.slice r.ka r.kn r.kc, .int .i64 r.p.2] _ _ rfl (HR3.out.set2 _ _) Tryz.underlying55 rfl infP) rfl ?_
              obtain ⟨hr, hv, hk, hb⟩ := HRR.out
              have hkn : (r.kn : Int) = (pcN (.mk k m a b g s st ks)).1.length := by rw [← hv.len, hr, HRP.out.len]
              have hkl : r.kn ≤ 610000 := by rw [← hv.len, hr]; exact HLE.out
              have hl2 := HLJ.out
              exact ⟨r, _, rfl, ((hv.set (by omega) 0 _).set (by omega) 1 _).wide (by omega), ((HKr.out.trans hk).setCell (p := ⟨w.heap.size + 1, 0, none⟩) (.inl (by simp)) _).setCell (p := ⟨w.heap.size + 1, 1, none⟩) (.inl (by simp)) _, ((hb.apart (by omega) _).apart (by omega) _), by omega, by omega, .inl ⟨by rw [hr]; exact HRP.out, by rw [← hkn]; omega⟩⟩
end Go.Proofs.YtjbcapnpknbbaaaGreat.cmp
