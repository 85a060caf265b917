/- compile.made: the code of a whole tree. -/
import Derived.Test.YtjbcapnpknbbaaaGreatCmpOwn
import Derived.Deep.RegionHeld3
import Derived.Deep.RegionWith
import Derived.Deep.LoopGhost
import Derived.Deep.CutBlock
import Derived.Laws.OwnMore
set_option linter.unusedVariables false
set_option linter.unusedSimpArgs false
namespace Go.Proofs.YtjbcapnpknbbaaaGreat.cmp
open Go.RowKit nod
open Go.Proofs.YtjbcapnpknbbaaaGreat.wid (ofN)
open Go.Proofs.YtjbcapnpknbbaaaGreat.low (standP kidsP)
open Go.Proofs.YtjbcapnpknbbaaaGreat.rng (R RV info_parts)

open Go.Proofs.YtjbcapnpknbbaaaGreat.low (plN plL plL_all len_szL setsN setsL)
/-- The whole program's instructions. -/
def prN (t : Nd) : Pc (List R) := putP (savedP [] 0 (pcN t)) [ins [] 12 0 0]
theorem results_row_tmp {P : Program} {fn : Func} {p u : Tmp} {ty : TypeId} (h : fn.results = #[.cell p ty, .tmp u]) (tmps : Array Value) (w : World) (g : Nat) (t : TypeId) (cs : Array Value) (fr : Nat × Nat) (d : TypeDesc)
    (hp : tmps.getD p undef = .pointer (some ⟨g, 0, none⟩)) (hg : w.heap[g]? = some (.cells cs t fr)) (hu : P.underlying ty = some d) (hd : (match d with | .struct _ | .array _ _ => true | _ => false) = true) (hi : (P.info? ty).map (·.size) = some cs.size) :
    (results fn tmps).run P w = .ok (.tuple #[.agg cs, tmps.getD u undef]) w := by
  rw [results_cell_tmp h, hp]
  simp [asAddr, run_loadVar_row w g t ty cs fr d hg hu hd hi, Result.andThen]
theorem flat6_set : ∀ (M : List (Is SV)) (j : Nat) (c : Is SV) (s : SV), M[j]? = some c → (flat6 M).set (j * 6 + 5) (sv s) = flat6 (M.set j ⟨c.op, c.x, c.y, c.mn, c.mx, s⟩)
  | [], j, c, s, h => by simp at h
  | x :: M, 0, c, s, h => by simp at h; subst h; simp [flat6_cons, cells6]
  | x :: M, j + 1, c, s, h => by
    have := flat6_set M j c s (by simpa using h)
    rw [List.set_cons_succ, flat6_cons, flat6_cons, ← this, List.set_append_right _ _ (by simp [cells6]; omega)]
    congr 2
    simp [cells6]; omega
/-- The first j sets are the call's own, the others the tree's. -/
def RM (B : Nat) (w wr : World) (lo j : Nat) (M : List (Is SV)) (P : List (Is (List R))) : Prop := M.length = P.length ∧ ∀ i c I, M[i]? = some c → P[i]? = some I → RI (fun s l => (i < j → QN wr lo s l) ∧ (¬ i < j → QS B w s l)) c I
theorem rm_start {B : Nat} {w wr : World} {lo : Nat} : ∀ {M : List (Is SV)} {P : List (Is (List R))}, RL (QS B w) M P → RM B w wr lo 0 M P := fun {M P} h => ⟨h.len, by
  induction h with
  | nil => intro i c I h; simp at h
  | cons a _ ih =>
    intro i c I h1 h2
    match i, h1, h2 with
    | 0, h1, h2 => simp at h1 h2; subst h1; subst h2; exact ⟨a.op, a.x, a.y, a.mn, a.mx, fun h => absurd h (by omega), fun _ => a.set⟩
    | i + 1, h1, h2 =>
      have := ih i c I (by simpa using h1) (by simpa using h2)
      exact ⟨this.op, this.x, this.y, this.mn, this.mx, fun h => absurd h (by omega), fun _ => this.set.2 (by omega)⟩⟩
theorem rl_of : ∀ {Q : SV → List R → Prop} (M : List (Is SV)) (P : List (Is (List R))), M.length = P.length → (∀ (i : Nat) (c : Is SV) (I : Is (List R)), M[i]? = some c → P[i]? = some I → RI Q c I) → RL Q M P
  | Q, [], [], _, _ => .nil
  | Q, c :: M, I :: P, hl, h => .cons (h 0 c I rfl rfl) (rl_of M P (by simpa using hl) (fun i c' I' h1 h2 => h (i + 1) c' I' (by simpa using h1) (by simpa using h2)))
theorem rm_end {B : Nat} {w wr : World} {lo j : Nat} {M : List (Is SV)} {P : List (Is (List R))} (h : RM B w wr lo j M P) (hj : M.length ≤ j) : RL (QN wr lo) M P :=
  rl_of M P h.1 fun i c I h1 h2 => by
    have := h.2 i c I h1 h2
    have hi := (List.getElem?_eq_some_iff.1 h1).1
    exact ⟨this.op, this.x, this.y, this.mn, this.mx, this.set.1 (by omega)⟩
theorem rm_step {B : Nat} {w wr wr' : World} {lo j : Nat} {M : List (Is SV)} {P : List (Is (List R))} {c : Is SV} {I : Is (List R)} {s : SV} (h : RM B w wr lo j M P) (hc : M[j]? = some c) (hI : P[j]? = some I) (hq : QN wr' lo s I.set) (hk : ∀ s l, QN wr lo s l → QN wr' lo s l) : RM B w wr' lo (j + 1) (M.set j ⟨c.op, c.x, c.y, c.mn, c.mx, s⟩) P := by
  refine ⟨by rw [List.length_set]; exact h.1, fun i c' I' h1 h2 => ?_⟩
  by_cases hij : i = j
  · subst hij
    rw [List.getElem?_set_self (List.getElem?_eq_some_iff.1 hc).1] at h1
    rw [hI] at h2
    cases h1; cases h2
    have := h.2 i c I hc hI
    exact ⟨this.op, this.x, this.y, this.mn, this.mx, fun _ => hq, fun h => absurd (Nat.lt_succ_self i) h⟩
  · rw [List.getElem?_set_ne (Ne.symm hij)] at h1
    have := h.2 i c' I' h1 h2
    exact ⟨this.op, this.x, this.y, this.mn, this.mx, fun h => hk _ _ (this.set.1 (by omega)), fun h => this.set.2 (by omega)⟩
set_option maxRecDepth 10000 in
set_option maxHeartbeats 16000000 in
theorem made_any (t : Nd) (v : Value) (d : Int) (w : World) (hv : NV w.heap.size w t v) (hpl : plN t d = true) (hsets : setsN t) (hsz : t.sz ≤ 900) :
    Calls Tryz.prog 17 #[v] w fun e w' => Below w.heap.size w w' ∧ ((4997 < (pcN t).1.length ∧ e = .returned (.tuple #[.agg #[.slice none 0 0, .int .i64 0], .bool false])) ∨ ((pcN t).1.length ≤ 4997 ∧ ∃ (q : Pp), e = .returned (.tuple #[.agg #[.slice q.ka q.kn q.kc, .int .i64 q.p.2], .bool true]) ∧ q.p.1.length = q.kn ∧ CR w' q.ka q.p.1 ∧ RL (QN w' w.heap.size) q.p.1 (prN t).1 ∧ q.p.2 = (prN t).2 ∧ (q.ka = none → q.kc = 0) ∧ (∀ x, q.ka = some x → w.heap.size ≤ x.block ∧ x.block < w'.heap.size))) := by
  obtain ⟨k, m, a, b, g, s, st, ks, sa, sc, ao, cap, rfl, rfl, _⟩ := hv.open
  generalize st.length = sl at *
  generalize ks.length = nk at *
  have HBW : Hid (Below w.heap.size w (((w.alloc (.cells #[.int .i64 k, .int .i64 m, .int .i64 a, .int .i64 b, .bool g, .string s, .slice sa sl sc, .slice ao nk cap] 25)).alloc (.cells #[.slice none 0 0, .int .i64 0] 55)).alloc (.cells #[.int .i64 0] 94))) := (below2 _ _ _).trans (((Below.refl _ _).alloc (Nat.le_refl _) _).mono (by simp; omega))
  have HR : Hid (Bk (((w.alloc (.cells #[.int .i64 k, .int .i64 m, .int .i64 a, .int .i64 b, .bool g, .string s, .slice sa sl sc, .slice ao nk cap] 25)).alloc (.cells #[.slice none 0 0, .int .i64 0] 55)).alloc (.cells #[.int .i64 0] 94)) (w.heap.size + 1) #[.slice none 0 0, .int .i64 0] 55) := bk2.past _
  have HM : Hid (Bk (((w.alloc (.cells #[.int .i64 k, .int .i64 m, .int .i64 a, .int .i64 b, .bool g, .string s, .slice sa sl sc, .slice ao nk cap] 25)).alloc (.cells #[.slice none 0 0, .int .i64 0] 55)).alloc (.cells #[.int .i64 0] 94)) (w.heap.size + 1 + 1) #[.int .i64 0] 94) := by
    have := Bk.new ((w.alloc (.cells #[.int .i64 k, .int .i64 m, .int .i64 a, .int .i64 b, .bool g, .string s, .slice sa sl sc, .slice ao nk cap] 25)).alloc (.cells #[.slice none 0 0, .int .i64 0] 55)) #[.int .i64 0] 94
    simpa [Hid] using this
  have hz : (((w.alloc (.cells #[.int .i64 k, .int .i64 m, .int .i64 a, .int .i64 b, .bool g, .string s, .slice sa sl sc, .slice ao nk cap] 25)).alloc (.cells #[.slice none 0 0, .int .i64 0] 55)).alloc (.cells #[.int .i64 0] 94)).heap.size = w.heap.size + 1 + 1 + 1 := by simp
  have CU := up_pc (w.heap.size + 1 + 1) _ _ 0 d w.heap.size (((w.alloc (.cells #[.int .i64 k, .int .i64 m, .int .i64 a, .int .i64 b, .bool g, .string s, .slice sa sl sc, .slice ao nk cap] 25)).alloc (.cells #[.slice none 0 0, .int .i64 0] 55)).alloc (.cells #[.int .i64 0] 94)) (hv.keep HBW.out) (by omega) (by omega) HM.out hpl hsets (by omega) (by omega) hsz
  obtain ⟨T, hT⟩ : ∃ T : Nd, (.mk k m a b g s st ks) = T := ⟨_, rfl⟩
  rw [hT] at CU
  rw [hT]
  obtain ⟨w1, hw1⟩ : ∃ w1, (((w.alloc (.cells #[.int .i64 k, .int .i64 m, .int .i64 a, .int .i64 b, .bool g, .string s, .slice sa sl sc, .slice ao nk cap] 25)).alloc (.cells #[.slice none 0 0, .int .i64 0] 55)).alloc (.cells #[.int .i64 0] 94)) = w1 := ⟨_, rfl⟩
  have HW1 : Hid ((((w.alloc (.cells #[.int .i64 k, .int .i64 m, .int .i64 a, .int .i64 b, .bool g, .string s, .slice sa sl sc, .slice ao nk cap] 25)).alloc (.cells #[.slice none 0 0, .int .i64 0] 55)).alloc (.cells #[.int .i64 0] 94)) = w1) := hw1
  rw [hw1] at HBW HR HM hz CU
  clear hw1 hv hpl hsets hsz hT
  go_enter Tryz.func17, Tryz.ntmps17
  go_wp2_with fail
  rw [HW1.out]
  refine CU.mono ?_
  rintro e w4 ⟨r, l', rfl, hv, hk, hb, g0, g1, hou⟩
  clear CU HW1
  have hs4 := hk.size
  have HK4 : Hid (Kp (some (w.heap.size + 1 + 1)) w1 w4) := hk
  have HB4 : Hid (Below w.heap.size w w4) := HBW.out.trans (hk.below (by omega) (fun x e => by have := Option.some.inj e; omega))
  have HR4 : Hid (Bk w4 (w.heap.size + 1) #[.slice none 0 0, .int .i64 0] 55) := HR.out.kp hk (fun e => by have := Option.some.inj e; omega)
  have HV4 : Hid (PV w4 w1.heap.size r) := hv
  have CF := full_any (w.heap.size + 1 + 1) l' (w4.alloc (.cells #[.slice r.ka r.kn r.kc, .int .i64 r.p.2] 55)) (hb.past _)
  by_cases hfl : 4997 < l'
  · rw [decide_eq_true hfl] at CF
    have HLT : Hid (4997 < (pcN T).1.length) := by
      rcases hou with ⟨_, e⟩ | ⟨_, e⟩
      · unfold Hid; omega
      · unfold Hid; omega
    have HR5 : Hid (Bk (w4.alloc (.cells #[.slice r.ka r.kn r.kc, .int .i64 r.p.2] 55)) (w.heap.size + 1) #[.slice none 0 0, .int .i64 0] 55) := HR4.out.past _
    have HB5 : Hid (Below w.heap.size w (w4.alloc (.cells #[.slice r.ka r.kn r.kc, .int .i64 r.p.2] 55))) := HB4.out.alloc (by omega) _
    have t0 := HR5.out.cell 0 (u := .slice none 0 0) rfl
    have t1 := HR5.out.cell 1 (u := .int .i64 0) rfl
    have f0 := HR5.out.frozen 0
    have f1 := HR5.out.frozen 1
    clear hou hv hk hb
    go_wp2_with (go_at_call 54; refine CF.mono ?_; rintro e w5 ⟨rfl, he5⟩; obtain rfl := he5.symm; clear CF)
    refine bodyPost_ret (results_row_tmp Tryz.results17 _ _ (w.heap.size + 1) _ #[.slice none 0 0, .int .i64 0] _ _ rfl (HR5.out.set2 _ _) Tryz.underlying55 rfl infP) rfl ?_
    exact ⟨(HB5.out.setCell (p := ⟨w.heap.size + 1, 0, none⟩) (by simp) _).setCell (p := ⟨w.heap.size + 1, 1, none⟩) (by simp) _, .inl ⟨HLT.out, rfl⟩⟩
  · rw [decide_eq_false hfl] at CF
    obtain ⟨hrp, hlen⟩ : RP (QS w.heap.size w1) r.p (pcN T) ∧ l' = 0 + (pcN T).1.length := by
      rcases hou with h | h
      · exact h
      · exact (hfl h.1).elim
    have hrn : r.kn ≤ 4997 := by have h1 := hv.len; have h2 := hrp.len; omega
    have HB1 : Hid (Below w.heap.size w w1) := HBW.out
    have HLT : Hid ((pcN T).1.length ≤ 4997) := by unfold Hid; omega
    have HRP : Hid (RP (QS w.heap.size w) r.p (pcN T)) := hrp.imp fun _ _ q => q.back HBW.out
    have BA : Below w4.heap.size w4 (w4.alloc (.cells #[.slice r.ka r.kn r.kc, .int .i64 r.p.2] 55)) := (Below.refl _ w4).alloc (Nat.le_refl _) _
    have HBA : Hid (Below w4.heap.size w4 (w4.alloc (.cells #[.slice r.ka r.kn r.kc, .int .i64 r.p.2] 55))) := BA
    have HX5 := Bk.new w4 #[.slice r.ka r.kn r.kc, .int .i64 r.p.2] 55
    have c0 := HX5.cell 0 (u := .slice r.ka r.kn r.kc) rfl
    have c1 := HX5.cell 1 (u := .int .i64 r.p.2) rfl
    have CS := saved_own 0 r (w4.alloc (.cells #[.slice r.ka r.kn r.kc, .int .i64 r.p.2] 55)) (by omega) ((hv.on BA).wide (Nat.zero_le _)) (by omega)
    have hz5 : (w4.alloc (.cells #[.slice r.ka r.kn r.kc, .int .i64 r.p.2] 55)).heap.size = w4.heap.size + 1 := by simp
    clear hou hv hk hb hrp hlen BA HX5
    go_wp2_with (first
      | (go_at_call 54; refine CF.mono ?_; rintro e w5 ⟨rfl, he5⟩; obtain rfl := he5.symm; clear CF)
      | (go_at_call 55; refine CS.mono ?_; rintro e w6 ⟨r2, rfl, hr2, hv2, b2, ho2⟩; have HS6 : Hid (r2.p = savedP sn 0 r.p ∧ PV w6 (w4.heap.size + 1) r2 ∧ Below (w4.heap.size + 1) (w4.alloc (.cells #[.slice r.ka r.kn r.kc, .int .i64 r.p.2] 55)) w6 ∧ OR w6 (w4.heap.size + 1) r2) := ⟨hr2, by rw [hz5] at hv2; exact hv2, by rw [hz5] at b2; exact b2, by rw [hz5] at ho2; exact ho2⟩; have hs6 : w4.heap.size + 1 ≤ w6.heap.size := (by have := b2.size; omega); have P6 : PS (w6.alloc (.cells #[.slice r2.ka r2.kn r2.kc, .int .i64 r2.p.2] 55)) (w6.alloc (.cells #[.slice r2.ka r2.kn r2.kc, .int .i64 r2.p.2] 55)) w6.heap.size (Value.slice r2.ka r2.kn r2.kc).ownBlock r2.p := ⟨⟨_, Bk.new w6 _ _, by rw [hv2.len]; exact (own_base ho2 (fun _ _ => Nat.zero_le _)).alloc _, fun x e => .inl e.symm⟩, Kq.refl _ _, by simp⟩; have CP := put_ps (P6.alloc (.cells #[.int .i64 12, .int .i64 0, .int .i64 0, .int .i64 0, .int .i64 0, .slice none 0 0] 66)) (some ⟨w6.heap.size + 1, 0, none⟩) 1 1 [ins sn 12 0 0] rfl (cr_bk (by have := Bk.new (w6.alloc (.cells #[.slice r2.ka r2.kn r2.kc, .int .i64 r2.p.2] 55)) #[.int .i64 12, .int .i64 0, .int .i64 0, .int .i64 0, .int .i64 0, .slice none 0 0] 66; simpa [ins, sn] using this)) (fun e => by cases e) (by rw [hr2, len_savedP, HV4.out.len]; omega); clear hr2 hv2 b2 ho2 P6 CS)
      | (go_at_call 56; refine CP.mono ?_; rintro e w8 ⟨rfl, P8⟩; obtain ⟨v8, bk8, own8, hx8⟩ := P8.row; have HP8 : Hid (PS (w6.alloc (.cells #[.slice r2.ka r2.kn r2.kc, .int .i64 r2.p.2] 55)) w8 w6.heap.size (Value.slice r2.ka r2.kn r2.kc).ownBlock (putP r2.p [ins sn 12 0 0])) := P8; obtain ⟨ao8, cap8, rfl, _, hnil8, hcap8, hxb8⟩ := own_cr own8 rfl; have o0 := bk8.cell 0 (u := .slice ao8 (putP r2.p [ins sn 12 0 0]).1.length cap8) rfl; clear CP P8))
    obtain ⟨hr2, hv2, hb2, ho2⟩ := HS6.out
    have HRL : Hid (RL (QS w.heap.size w) (putP r2.p [ins sn 12 0 0]).1 (prN T).1) := by
      unfold Hid prN; rw [hr2]
      exact ((HRP.out.saved (qs_nil _ _) 0).put (.cons (ri_ins (qs_nil _ _) _ _ _) .nil)).1
    have HMK : Hid (r2.p.2 = (prN T).2) := by unfold Hid prN; rw [hr2]; exact ((HRP.out.saved (qs_nil _ _) 0).put (l := []) (l' := []) .nil).2
    have hGlo : ∀ x, (Value.slice r2.ka r2.kn r2.kc).ownBlock = some x → w4.heap.size + 1 ≤ x := fun x e => (ho2.lt x e).1
    have hB6 : Below w.heap.size w (w6.alloc (.cells #[.slice r2.ka r2.kn r2.kc, .int .i64 r2.p.2] 55)) := ((HB4.out.trans (below_less (HBA.out) (by omega))).trans (below_less hb2 (by omega))).alloc (by omega) _
    have hB8 : Below w.heap.size w w8 := hB6.trans (HP8.out.kq.below (by simp; omega) (fun x s => by
      rcases s with s | s
      · omega
      · have := hGlo x s.symm; omega))
    have hR8 : Bk w8 (w.heap.size + 1) #[.slice none 0 0, .int .i64 0] 55 := HP8.out.bk (((HR4.out.on HBA.out).keep hb2 (by omega)).past _) (by omega) (fun e => by have := hGlo _ e.symm; omega)
    obtain ⟨g8, rfl⟩ : ∃ g8, ao8 = some ⟨g8, 0, none⟩ := by
      rcases own8.2 with ⟨e, h0⟩ | ⟨g', cp, cur, e, _⟩
      · simp [putP] at h0
      · simp only [Value.slice.injEq] at e; exact ⟨g', e.1⟩
    have hg8 : g8 < w8.heap.size := (own8.lt g8 rfl).2
    have hglo : w.heap.size ≤ g8 := by
      rcases hx8 g8 rfl with h | h
      · have := hGlo g8 h.symm; have := HB4.out.size; omega
      · simp at h; have := HB4.out.size; omega
    have hgob : g8 ≠ w6.heap.size := row_ne own8 bk8 (by decide) rfl
    have hob8 := bk8.lt
    have hgR : g8 ≠ w.heap.size + 1 := row_ne own8 hR8 (by decide) rfl
    obtain ⟨M0, hM0⟩ : ∃ M0, (putP r2.p [ins sn 12 0 0]).1 = M0 := ⟨_, rfl⟩
    obtain ⟨n, hn⟩ : ∃ n, M0.length = n := ⟨_, rfl⟩
    have hnb : n ≤ 6000 := by
      rw [← hn, ← hM0]; simp only [putP, List.length_append, hr2, len_savedP, HV4.out.len]; simp; omega
    rw [hM0] at HRL own8 o0 bk8
    rw [hn] at own8 o0 bk8
    rw [hM0, hn]
    have HMl : Hid (M0.length = n) := hn
    have HOW : Hid (w8.ownsRow 0 66 6 (.slice (some ⟨g8, 0, none⟩) n cap8) n (flat6 M0)) := own8
    have HBK : Hid (Bk w8 w6.heap.size #[.slice (some ⟨g8, 0, none⟩) n cap8, .int .i64 r2.p.2] 55) := bk8
    have HB8 : Hid (Below w.heap.size w w8) := hB8
    have HR8 : Hid (Bk w8 (w.heap.size + 1) #[.slice none 0 0, .int .i64 0] 55) := hR8
    have HRM : Hid (RM w.heap.size w w8 w8.heap.size 0 M0 (prN T).1) := rm_start HRL.out
    have hpl : (prN T).1.length = n := by rw [← hn]; exact HRL.out.len.symm
    have HPL : Hid ((prN T).1.length = n) := hpl
    have hs8 := hB8.size
    clear hr2 hv2 hb2 ho2 hGlo hB6 hB8 hR8 hM0 hn own8 bk8 o0 HRL hpl HP8 HS6 hx8 hxb8 hnil8 HBA HR4 HV4 HRP c0 c1
    go_loopg [22] n (fun gk i wr => ∃ (j : Nat) (M : List (Is SV)), j + gk = n ∧ i = .int .i64 j ∧ Hid (M.length = n) ∧ Hid (wr.ownsRow 0 66 6 (.slice (some ⟨g8, 0, none⟩) n cap8) n (flat6 M)) ∧ Hid (Bk wr w6.heap.size #[.slice (some ⟨g8, 0, none⟩) n cap8, .int .i64 r2.p.2] 55) ∧ Hid (Bk wr (w.heap.size + 1) #[.slice none 0 0, .int .i64 0] 55) ∧ Hid (Below w.heap.size w wr) ∧ Hid (RM w.heap.size w wr w8.heap.size j M (prN T).1) ∧ w8.heap.size ≤ wr.heap.size)
    case atStart => exact ⟨0, M0, by omega, rfl, HMl, HOW, HBK, HR8, HB8, HRM, Nat.le_refl _⟩
    case round =>
      obtain ⟨j, M, hj, rfl, HML, HOr, HBr, HRr, HBl, HRMr, hsr⟩ := hrel
      clear HOW HBK HR8 HB8 HRM HMl
      by_cases hlt : j < n
      · obtain ⟨c, hc⟩ := getI HML.out hlt
        obtain ⟨I, hI⟩ : ∃ I, (prN T).1[j]? = some I := ⟨_, List.getElem?_eq_getElem (by have := HPL.out; omega)⟩
        have hri := HRMr.out.2 j c I hc hI
        have hqs := (hri.set.2 (by omega)).below HBl.out
        obtain ⟨_, _, e, hcr, _⟩ := own_cr HOr.out HML.out
        cases e
        obtain ⟨b', off', e', hat⟩ := hcr.pos (by have := HML.out; omega)
        cases e'
        have y5 := (hat j c hc).c5
        rw [Nat.zero_add] at y5
        have ff := HOr.out.frozenAt (j * 6 + 5)
        have q0 := HBr.out.cell 0 (u := .slice (some ⟨g8, 0, none⟩) n cap8) rfl
        have hgr : g8 < wr.heap.size := by omega
        have hor : w6.heap.size < wr.heap.size := HBr.out.lt
        have HC : Hid (∀ W, Below wr.heap.size wr W → Calls Tryz.prog 57 #[.slice c.set.1 c.set.2.1 c.set.2.2] W fun e w' => ∃ r : SV, e = .returned (.slice r.1 r.2.1 r.2.2) ∧ QN w' wr.heap.size r I.set ∧ Below wr.heap.size wr w') := fun W h =>
          (own_any c.set I.set W (hqs.1.below h) hqs.2.1 hqs.2.2.2.2.2.1 hqs.2.2.2.2.2.2).mono (by rintro e w' ⟨r, h1, h2, h3⟩; exact ⟨r, h1, h2.wide h.size, h.trans (below_less h3 h.size)⟩)
        have HST : Hid (∀ (w2 : World) (r3 : SV), Below wr.heap.size wr w2 → QN w2 wr.heap.size r3 I.set → (w2.setCell ⟨g8, j * 6 + 5, none⟩ (.slice r3.1 r3.2.1 r3.2.2)).ownsRow 0 66 6 (.slice (some ⟨g8, 0, none⟩) n cap8) n (flat6 (M.set j ⟨c.op, c.x, c.y, c.mn, c.mx, r3⟩)) ∧ Bk (w2.setCell ⟨g8, j * 6 + 5, none⟩ (.slice r3.1 r3.2.1 r3.2.2)) w6.heap.size #[.slice (some ⟨g8, 0, none⟩) n cap8, .int .i64 r2.p.2] 55 ∧ Bk (w2.setCell ⟨g8, j * 6 + 5, none⟩ (.slice r3.1 r3.2.1 r3.2.2)) (w.heap.size + 1) #[.slice none 0 0, .int .i64 0] 55 ∧ Below w.heap.size w (w2.setCell ⟨g8, j * 6 + 5, none⟩ (.slice r3.1 r3.2.1 r3.2.2)) ∧ RM w.heap.size w (w2.setCell ⟨g8, j * 6 + 5, none⟩ (.slice r3.1 r3.2.1 r3.2.2)) w8.heap.size (j + 1) (M.set j ⟨c.op, c.x, c.y, c.mn, c.mx, r3⟩) (prN T).1) := fun w2 r3 b2 hq3 => by
          refine ⟨?_, (HBr.out.on b2).apart (Ne.symm hgob) _, (HRr.out.on b2).apart (Ne.symm hgR) _, (HBl.out.trans (below_less b2 HBl.out.size)).setCell (p := ⟨g8, j * 6 + 5, none⟩) ?_ _, rm_step HRMr.out hc hI ((hq3.wide hsr).set hg8 _ _) (fun s l q => (q.on b2).set hg8 _ _)⟩
          · have := ((rng.own_below' HOr.out b2).stored (j * 6 + 5) (.slice r3.1 r3.2.1 r3.2.2)).1
            rw [show (Value.slice r3.1 r3.2.1 r3.2.2) = sv r3 from rfl, flat6_set M j c r3 hc] at this; exact this
          · exact hglo
        clear hri hqs hcr hat hc hI HRMr
        obtain ⟨co, cx, cy, cmn, cmx, csa, csl, csc⟩ := c
        simp only at *
        go_upto_region 10 with fail
        go_region_with (go_at_call 57; refine (HC.out _ (Below.refl _ _).drew).mono ?_; rintro e w2 ⟨r3, rfl, q3, b2⟩; have HQ3 : Hid (QN w2 wr.heap.size r3 I.set ∧ Below wr.heap.size wr w2) := ⟨q3, b2⟩; have p0 := (HBr.out.on b2).cell 0 (u := .slice (some ⟨g8, 0, none⟩) n cap8) rfl; have p5 := (b2.cell (World.block_lt_of_cell? wr _ y5)).trans y5; have pf := (World.frozen?_of_block (a := ⟨g8, j * 6 + 5, none⟩) (b2.block g8 hgr)).trans ff; clear q3 b2)
        all_goals
          have hs2 := HQ3.out.2.size
          obtain ⟨z1, z2, z3, z4, z5⟩ := HST.out w2 r3 HQ3.out.2 HQ3.out.1
          have HZ : Hid ((w2.setCell ⟨g8, j * 6 + 5, none⟩ (.slice r3.1 r3.2.1 r3.2.2)).ownsRow 0 66 6 (.slice (some ⟨g8, 0, none⟩) n cap8) n (flat6 (M.set j ⟨co, cx, cy, cmn, cmx, r3⟩)) ∧ Bk (w2.setCell ⟨g8, j * 6 + 5, none⟩ (.slice r3.1 r3.2.1 r3.2.2)) w6.heap.size #[.slice (some ⟨g8, 0, none⟩) n cap8, .int .i64 r2.p.2] 55 ∧ Bk (w2.setCell ⟨g8, j * 6 + 5, none⟩ (.slice r3.1 r3.2.1 r3.2.2)) (w.heap.size + 1) #[.slice none 0 0, .int .i64 0] 55 ∧ Below w.heap.size w (w2.setCell ⟨g8, j * 6 + 5, none⟩ (.slice r3.1 r3.2.1 r3.2.2)) ∧ RM w.heap.size w (w2.setCell ⟨g8, j * 6 + 5, none⟩ (.slice r3.1 r3.2.1 r3.2.2)) w8.heap.size (j + 1) (M.set j ⟨co, cx, cy, cmn, cmx, r3⟩) (prN T).1) := ⟨z1, z2, z3, z4, z5⟩
          have HL2 : Hid ((M.set j ⟨co, cx, cy, cmn, cmx, r3⟩).length = n) := by unfold Hid; rw [List.length_set]; exact HML.out
          clear z1 z2 z3 z4 z5 HST HQ3 HC p0 p5 pf y5 ff q0
          go_wp2
          go_roundg (gk - 1)
          case measure => omega
          case rel => exact ⟨j + 1, _, by omega, by go_num, HL2, HZ.out.1, HZ.out.2.1, HZ.out.2.2.1, HZ.out.2.2.2.1, HZ.out.2.2.2.2, by simp [World.setCell]; omega⟩
      · obtain rfl : j = n := by omega
        have q0 := HBr.out.cell 0 (u := .slice (some ⟨g8, 0, none⟩) j cap8) rfl
        have q1 := HBr.out.cell 1 (u := .int .i64 r2.p.2) rfl
        have t0 := HRr.out.cell 0 (u := .slice none 0 0) rfl
        have t1 := HRr.out.cell 1 (u := .int .i64 0) rfl
        have f0 := HRr.out.frozen 0
        have f1 := HRr.out.frozen 1
        have hob := HBr.out.lt
        go_wp2
        refine bodyPost_ret (results_row_tmp Tryz.results17 _ _ (w.heap.size + 1) _ #[.slice (some ⟨g8, 0, none⟩) j cap8, .int .i64 r2.p.2] _ _ rfl (HRr.out.set2 _ _) Tryz.underlying55 rfl infP) rfl ?_
        obtain ⟨_, _, e, hcr, _⟩ := own_cr HOr.out HML.out
        cases e
        have hrl := rm_end HRMr.out (by have := HML.out; omega)
        have hk2 : ∀ b', b' ≠ w.heap.size + 1 → ((wr.setCell ⟨w.heap.size + 1, 0, none⟩ (.slice (some ⟨g8, 0, none⟩) j cap8)).setCell ⟨w.heap.size + 1, 1, none⟩ (.int .i64 r2.p.2)).heap[b']? = wr.heap[b']? := fun b' hb' => (Below.heap_setCell _ _ _ _ hb').trans (Below.heap_setCell _ _ _ _ hb')
        refine ⟨(HBl.out.setCell (p := ⟨w.heap.size + 1, 0, none⟩) (by simp) _).setCell (p := ⟨w.heap.size + 1, 1, none⟩) (by simp) _, .inr ⟨HLT.out, ⟨some ⟨g8, 0, none⟩, j, cap8, (M, r2.p.2)⟩, rfl, HML.out, hcr.keep (fun b' off' e' _ _ => hk2 b' (by cases e'; exact hgR)), ?_, HMK.out, fun e => (by cases e), fun x e => by cases e; exact ⟨hglo, by simp [World.setCell]; omega⟩⟩⟩
        exact hrl.imp fun s l q => ((q.set (by omega) _ _).set (by omega) _ _).wide (by omega)
end Go.Proofs.YtjbcapnpknbbaaaGreat.cmp
