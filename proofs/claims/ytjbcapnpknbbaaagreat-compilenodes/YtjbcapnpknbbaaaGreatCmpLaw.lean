/- awake; the statement CompileNodes. -/
import Derived.Test.YtjbcapnpknbbaaaGreatBndCmpSame
import Derived.Test.YtjbcapnpknbbaaaGreatCmpAwk
import Derived.Test.YtjbcapnpknbbaaaGreatCmpCopy
import Derived.Test.YtjbcapnpknbbaaaGreatBndNodQuiet
import Derived.Test.YtjbcapnpknbbaaaGreatBndNodMem
set_option linter.unusedVariables false
set_option linter.unusedSimpArgs false
namespace Go.Proofs.YtjbcapnpknbbaaaGreat.cmp
open Go.RowKit nod
open Go.Proofs.YtjbcapnpknbbaaaGreat.rng (R RV info_parts canB)
open Go.Proofs.YtjbcapnpknbbaaaGreat.low (setsN setsL sets_mem plN standP kidsP)
open Go.Proofs.YtjbcapnpknbbaaaGreat.wid (badN badL)

def QB (a _ : List R) : Prop := a.length ≤ 8796093021952
theorem qlen_nil : QB [] [] := by show 0 ≤ 8796093021952; decide
theorem sets_pc : ∀ (N : Nat) (t : Nd), t.sz ≤ N → setsN t → RP QB (pcN t) (pcN t) := by
  intro N
  induction N with
  | zero => intro t h; obtain ⟨k, m, a, b, g, n, s, ks⟩ := t; rw [Nd.sz] at h; omega
  | succ N ih =>
    intro t h hs
    obtain ⟨k, m, a, b, g, n, s, ks⟩ := t
    rw [Nd.sz] at h
    rw [setsN] at hs
    rw [pc_one]
    have hk : RS QB (ks.map pcN) (ks.map pcN) := by
      have : ∀ l : List Nd, (∀ t ∈ l, t ∈ ks) → RS QB (l.map pcN) (l.map pcN) := by
        intro l
        induction l with
        | nil => intro _; exact .nil
        | cons x l ih2 =>
          intro hl
          have hx := hl x (List.mem_cons_self ..)
          exact .cons (ih x (by have := szL_mem hx; omega) (sets_mem hs.2 hx)) (ih2 fun t ht => hl t (List.mem_cons_of_mem _ ht))
      exact this ks fun t ht => ht
    split
    · exact RS.piece (Q := QB) qlen_nil k m a b (show QB s s from hs.1) _ hk
    · exact RS.piece (Q := QB) qlen_nil k m a b (show QB s s from hs.1) _ .nil
theorem sets_prN (t : Nd) (hs : setsN t) : ∀ i ∈ (prN t).1, i.set.length ≤ 8796093021952 := by
  have h : RP QB (prN t) (prN t) := by
    unfold prN
    exact RP.put (RP.saved qlen_nil 0 (sets_pc _ t (Nat.le_refl _) hs)) (.cons (ri_ins qlen_nil _ _ _) .nil)
  have : ∀ {l r : List (Is (List R))}, RL QB l r → ∀ i ∈ l, i.set.length ≤ 8796093021952 := by
    intro l r h
    induction h with
    | nil => intro i hi; simp at hi
    | cons a _ ih =>
      intro i hi
      rcases List.mem_cons.1 hi with rfl | hi
      · exact a.set
      · exact ih i hi
  exact this h.1
theorem errP_len {t : Nd} {f : Int} (h : errP t f = 0) : (pcN t).1.length ≤ 4997 := by
  unfold errP at h
  split at h
  · cases h
  split at h
  · cases h
  split at h
  · cases h
  split at h
  · cases h
  · omega
theorem aw_row {Q : SV → List R → Prop} {p : List (Is SV)} (h : RL Q p [ins [] 4 0 0, ⟨1, 0, 0, 0, 0, [(5, 6)]⟩, ins [] 4 1 0, ins [] 12 0 0]) : ∃ s0 s1 s2 s3, p = awP s0 s1 s2 s3 ∧ Q s1 [(5, 6)] := by
  cases h with
  | @cons i0 _ p _ a0 h =>
    cases h with
    | @cons i1 _ p _ a1 h =>
      cases h with
      | @cons i2 _ p _ a2 h =>
        cases h with
        | @cons i3 _ p _ a3 h =>
          cases h
          obtain ⟨o, x, y, mn, mx, s0⟩ := i0
          obtain ⟨o1, x1, y1, mn1, mx1, s1⟩ := i1
          obtain ⟨o2, x2, y2, mn2, mx2, s2⟩ := i2
          obtain ⟨o3, x3, y3, mn3, mx3, s3⟩ := i3
          obtain ⟨b1, b2, b3, b4, b5, b6⟩ := a0
          obtain ⟨c1, c2, c3, c4, c5, c6⟩ := a1
          obtain ⟨d1, d2, d3, d4, d5, d6⟩ := a2
          obtain ⟨e1, e2, e3, e4, e5, e6⟩ := a3
          simp only [ins] at b1 b2 b3 b4 b5 c1 c2 c3 c4 c5 d1 d2 d3 d4 d5 e1 e2 e3 e4 e5
          subst b1 b2 b3 b4 b5 c1 c2 c3 c4 c5 d1 d2 d3 d4 d5 e1 e2 e3 e4 e5
          exact ⟨s0, s1, s2, s3, rfl, c6⟩
theorem aw_plN : plN (Nd.mk 15 0 0 0 false NB0 [(5, 6)] []) 0 = true := by
  rw [plN]; simp [standP, kidsP]; decide
theorem aw_pc : pcN (Nd.mk 15 0 0 0 false NB0 [(5, 6)] []) = oneP ⟨1, 0, 0, 0, 0, [(5, 6)]⟩ := by rw [pc_one]; simp [pieceP]
theorem aw_gN : gN (Nd.mk 15 0 0 0 false NB0 [(5, 6)] []) G0 = G0 := by rw [gN]; simp [kidsP, meetG]
theorem aw_pr : (prN (Nd.mk 15 0 0 0 false NB0 [(5, 6)] [])).1 = [ins [] 4 0 0, ⟨1, 0, 0, 0, 0, [(5, 6)]⟩, ins [] 4 1 0, ins [] 12 0 0] := by
  unfold prN savedP
  rw [aw_pc, rowP3]
  simp [addP, oneP, putP, ins, mv]
theorem aw_mk : (prN (Nd.mk 15 0 0 0 false NB0 [(5, 6)] [])).2 = 0 := by
  unfold prN savedP
  rw [aw_pc, rowP3]
  simp [addP, oneP, putP]
theorem aw_err : errP (Nd.mk 15 0 0 0 false NB0 [(5, 6)] []) 0 = 0 := by
  unfold errP
  rw [aw_plN, aw_gN, aw_pc]
  have hb : badN (Nd.mk 15 0 0 0 false NB0 [(5, 6)] []) = false := by rw [badN]; simp [badL, wid.behind]
  rw [hb]
  simp [G0, oneP]
set_option maxRecDepth 10000 in
set_option maxHeartbeats 4000000 in
theorem awake_any (w : World) : Calls Tryz.prog 5 #[] w fun e w' => e = .returned (.bool true) ∧ Below w.heap.size w w' := by
  have HB1 : Hid (Below w.heap.size w (w.alloc (.cells #[.int .i64 5, .int .i64 6] 44))) := (Below.refl _ _).alloc (Nat.le_refl _) _
  have hz : ((w.alloc (.cells #[.int .i64 5, .int .i64 6] 44))).heap.size = w.heap.size + 1 := by simp
  have hbk : Bk (w.alloc (.cells #[.int .i64 5, .int .i64 6] 44)) w.heap.size #[.int .i64 5, .int .i64 6] 44 := Bk.new w _ _
  have hv : NV (w.heap.size + 1) (w.alloc (.cells #[.int .i64 5, .int .i64 6] 44)) (Nd.mk 15 0 0 0 false NB0 [(5, 6)] []) (.agg #[.int .i64 15, .int .i64 0, .int .i64 0, .int .i64 0, .bool false, .string ⟨#[]⟩, .slice (some ⟨w.heap.size, 0, none⟩) 1 1, .slice none 0 0]) := by
    refine NV.shut (s := [(5, 6)]) (ks := []) (cap := 0) ⟨by unfold I64; omega, by unfold I64; omega, by unfold I64; omega, by unfold I64; omega⟩ (by decide) ⟨.inr ⟨w.heap.size, 0, rfl, fun i p hi => ?_⟩, fun x e _ => by cases e; simp only; omega, by simp, by unfold maxLen; simp, fun e => by cases e⟩ ⟨by simp, by unfold maxLen; simp, fun _ => rfl⟩ (.inl rfl)
    cases i with
    | zero => simp at hi; subst hi; exact ⟨hbk.cell 0 rfl, hbk.cell 1 rfl⟩
    | succ i => simp at hi
  have CP := prog_any (Nd.mk 15 0 0 0 false NB0 [(5, 6)] []) (.agg #[.int .i64 15, .int .i64 0, .int .i64 0, .int .i64 0, .bool false, .string ⟨#[]⟩, .slice (some ⟨w.heap.size, 0, none⟩) 1 1, .slice none 0 0]) false false false 0 (w.alloc (.cells #[.int .i64 5, .int .i64 6] 44)) (by rw [hz]; exact hv) ⟨by decide, trivial⟩ (by rw [Nd.sz, szL]; omega)
  clear hbk hv
  go_enter Tryz.func5, Tryz.ntmps5
  go_wp2_with fail
  go_at_call 7
  refine CP.mono ?_
  clear CP
  rintro e w2 ⟨b2, hres⟩
  rcases hres with ⟨he, _⟩ | ⟨_, q, na, mn, nc, hmn, hm20, rfl, hlen, hcr, hrl, hmk, hnil, _⟩
  · exact absurd aw_err he
  rw [aw_pr] at hrl
  obtain ⟨s0, s1, s2, s3, hq, hset⟩ := aw_row hrl
  rw [aw_mk] at hmk
  rw [aw_gN] at hmn
  have hmn0 : mn = 0 := by have : (0 : Int) = mn := hmn; omega
  subst hmn0
  rw [hq] at hlen hcr
  have hkn : q.kn = 4 := hlen.symm
  rw [hkn, hmk]
  have HB2 : Hid (Below w.heap.size w w2) := HB1.out.trans (below_less b2 (by omega))
  have W3 : Below w2.heap.size w2 (w2.alloc (.cells #[.slice q.ka 4 q.kc, .int .i64 0, .int .i64 0, .slice na 1 nc, .bool false, .bool false, .bool false, .int .i64 0] 34)) := (Below.refl _ _).alloc (Nat.le_refl _) _
  have CC := can_aw q.ka q.kc na nc s0 s1 s2 s3 _ (hcr.below W3) (hset.1.below W3) hset.2.1
  have HB3 : Hid (Below w.heap.size w (w2.alloc (.cells #[.slice q.ka 4 q.kc, .int .i64 0, .int .i64 0, .slice na 1 nc, .bool false, .bool false, .bool false, .int .i64 0] 34))) := HB2.out.trans (below_less W3 HB2.out.size)
  clear hlen hcr hrl hq hset hmk hnil W3 b2 hkn hmn
  generalize q.ka = ka at *
  generalize q.kc = kc at *
  go_wp2_with (go_at_call 12; refine CC.mono ?_; clear CC; rintro e w4 ⟨rfl, b4⟩; have HB4 : Hid (Below w.heap.size w w4) := HB3.out.trans (below_less b4 HB3.out.size); clear b4)
  go_ret
  exact ⟨rfl, HB4.out⟩
set_option maxRecDepth 100000 in
set_option maxHeartbeats 16000000 in
theorem nodes_walk (t : Nd) (v : Value) (o0 o1 o2 : Bool) (o3 : Int) (w : World) (hv : NV w.heap.size w t v) (hsets : setsN t) :
    Calls Tryz.prog 3 #[v, .agg #[.bool o0, .bool o1, .bool o2, .int .i64 o3]] w fun e w' => e = .returned (.bool true) ∧ Below w.heap.size w w' := by
  have HNV : Hid (∀ W, Below w.heap.size w W → NV w.heap.size W t v) := fun W h => hv.keep h
  have HAW : Hid (∀ W, Calls Tryz.prog 5 #[] W fun e w' => e = .returned (.bool true) ∧ Below W.heap.size W w') := awake_any
  have HSETS : Hid (setsN t) := hsets
  obtain ⟨k, m, a, b, g, n, st, ks, sa, sc, ao, cap, hT, rfl, _⟩ := hv.open
  obtain ⟨sl, hsl⟩ : ∃ sl, st.length = sl := ⟨_, rfl⟩
  obtain ⟨nk, hnk⟩ : ∃ nk, ks.length = nk := ⟨_, rfl⟩
  have HSL : Hid (st.length = sl) := hsl
  have HNK : Hid (ks.length = nk) := hnk
  have HT : Hid (t = .mk k m a b g n st ks) := hT
  rw [hsl, hnk] at HNV ⊢
  have HB1 : Hid (Below w.heap.size w ((w.alloc (.cells #[.int .i64 k, .int .i64 m, .int .i64 a, .int .i64 b, .bool g, .string n, .slice sa sl sc, .slice ao nk cap] 25)).alloc (.cells #[.bool o0, .bool o1, .bool o2, .int .i64 o3] 27))) := below2 _ _ _
  have HN1 : Hid (Bk ((w.alloc (.cells #[.int .i64 k, .int .i64 m, .int .i64 a, .int .i64 b, .bool g, .string n, .slice sa sl sc, .slice ao nk cap] 25)).alloc (.cells #[.bool o0, .bool o1, .bool o2, .int .i64 o3] 27)) w.heap.size #[.int .i64 k, .int .i64 m, .int .i64 a, .int .i64 b, .bool g, .string n, .slice sa sl sc, .slice ao nk cap] 25) := (Bk.new w _ _).past _
  have HO1 : Hid (Bk ((w.alloc (.cells #[.int .i64 k, .int .i64 m, .int .i64 a, .int .i64 b, .bool g, .string n, .slice sa sl sc, .slice ao nk cap] 25)).alloc (.cells #[.bool o0, .bool o1, .bool o2, .int .i64 o3] 27)) (w.heap.size + 1) #[.bool o0, .bool o1, .bool o2, .int .i64 o3] 27) := bk2
  have hz1 : (((w.alloc (.cells #[.int .i64 k, .int .i64 m, .int .i64 a, .int .i64 b, .bool g, .string n, .slice sa sl sc, .slice ao nk cap] 25)).alloc (.cells #[.bool o0, .bool o1, .bool o2, .int .i64 o3] 27))).heap.size = w.heap.size + 1 + 1 := by simp
  have CD := deep_any t (.agg #[.int .i64 k, .int .i64 m, .int .i64 a, .int .i64 b, .bool g, .string n, .slice sa sl sc, .slice ao nk cap]) 500 500 ((w.alloc (.cells #[.int .i64 k, .int .i64 m, .int .i64 a, .int .i64 b, .bool g, .string n, .slice sa sl sc, .slice ao nk cap] 25)).alloc (.cells #[.bool o0, .bool o1, .bool o2, .int .i64 o3] 27)) ((HNV.out _ HB1.out).wide (by omega)) (by omega) (by omega) (by omega) (by omega)
  have x0 := HN1.out.cell 0 (u := .int .i64 k) rfl; have x1 := HN1.out.cell 1 (u := .int .i64 m) rfl; have x2 := HN1.out.cell 2 (u := .int .i64 a) rfl; have x3 := HN1.out.cell 3 (u := .int .i64 b) rfl; have x4 := HN1.out.cell 4 (u := .bool g) rfl; have x5 := HN1.out.cell 5 (u := .string n) rfl; have x6 := HN1.out.cell 6 (u := .slice sa sl sc) rfl; have x7 := HN1.out.cell 7 (u := .slice ao nk cap) rfl
  clear hv hsets hT hsl hnk
  obtain ⟨fw, hfw⟩ : ∃ fw, (fewN t 500 500).2 = fw := ⟨_, rfl⟩
  have HFW : Hid ((fewN t 500 500).2 = fw) := hfw
  rw [hfw] at CD
  clear hfw
  go_enter Tryz.func3, Tryz.ntmps3
  go_wp2_with fail
  go_at_call 4
  refine CD.mono ?_
  clear CD x0 x1 x2 x3 x4 x5 x6 x7
  rintro e w2 ⟨rfl, b2⟩
  have HB2 : Hid (Below w.heap.size w w2) := HB1.out.trans (below_less b2 (by omega))
  have HN2 : Hid (Bk w2 w.heap.size #[.int .i64 k, .int .i64 m, .int .i64 a, .int .i64 b, .bool g, .string n, .slice sa sl sc, .slice ao nk cap] 25) := HN1.out.on b2; have HO2 : Hid (Bk w2 (w.heap.size + 1) #[.bool o0, .bool o1, .bool o2, .int .i64 o3] 27) := HO1.out.on b2
  clear b2
  cases fw with
  | false =>
    have CA := HAW.out w2
    go_wp2_with (go_at_call 5; refine CA.mono ?_; clear CA; rintro e w3 ⟨rfl, b3⟩; have HB3 : Hid (Below w.heap.size w w3) := HB2.out.trans (below_less b3 HB2.out.size); clear b3)
    go_ret
    exact ⟨rfl, HB3.out⟩
  | true =>
    have hsz : t.sz ≤ 500 := by have := deep_facts HFW.out; omega
    have CC := copy_any _ t (.agg #[.int .i64 k, .int .i64 m, .int .i64 a, .int .i64 b, .bool g, .string n, .slice sa sl sc, .slice ao nk cap]) w.heap.size w2 (Nat.le_refl _) (by omega) HSETS.out (HNV.out _ HB2.out) HB2.out.size
    have x0 := HN2.out.cell 0 (u := .int .i64 k) rfl; have x1 := HN2.out.cell 1 (u := .int .i64 m) rfl; have x2 := HN2.out.cell 2 (u := .int .i64 a) rfl; have x3 := HN2.out.cell 3 (u := .int .i64 b) rfl; have x4 := HN2.out.cell 4 (u := .bool g) rfl; have x5 := HN2.out.cell 5 (u := .string n) rfl; have x6 := HN2.out.cell 6 (u := .slice sa sl sc) rfl; have x7 := HN2.out.cell 7 (u := .slice ao nk cap) rfl
    go_wp2_with fail
    go_at_call 6
    refine CC.mono ?_
    clear CC x0 x1 x2 x3 x4 x5 x6 x7
    rintro e w3 ⟨v', rfl, hf, b3⟩
    have HB3 : Hid (Below w.heap.size w w3) := HB2.out.trans (below_less b3 HB2.out.size)
    have HN3 : Hid (Bk w3 w.heap.size #[.int .i64 k, .int .i64 m, .int .i64 a, .int .i64 b, .bool g, .string n, .slice sa sl sc, .slice ao nk cap] 25) := HN2.out.on b3; have HO3 : Hid (Bk w3 (w.heap.size + 1) #[.bool o0, .bool o1, .bool o2, .int .i64 o3] 27) := HO2.out.on b3
    have hvv := hf w3 (fun _ _ _ => rfl)
    obtain ⟨_, _, _, _, _, _, _, _, ra, rc, qa, qc, e2', rfl, _⟩ := hvv.open
    rw [HT.out] at e2'
    cases e2'
    rw [HSL.out, HNK.out] at hf ⊢
    have HG3 : Hid (∀ W, Below w3.heap.size w3 W → NV W.heap.size W t (.agg #[.int .i64 k, .int .i64 m, .int .i64 a, .int .i64 b, .bool g, .string n, .slice ra sl rc, .slice qa nk qc])) := fun W hW => (hf W (fun q _ hq => hW.block q hq)).wide hW.size
    clear b3 hf hvv
    have W34 : Below w3.heap.size w3 (w3.alloc (.cells #[.int .i64 k, .int .i64 m, .int .i64 a, .int .i64 b, .bool g, .string n, .slice ra sl rc, .slice qa nk qc] 25)) := (Below.refl _ _).alloc (Nat.le_refl _) _
    have HB4 : Hid (Below w.heap.size w (w3.alloc (.cells #[.int .i64 k, .int .i64 m, .int .i64 a, .int .i64 b, .bool g, .string n, .slice ra sl rc, .slice qa nk qc] 25))) := HB3.out.trans (below_less W34 HB3.out.size)
    have HN4 : Hid (Bk (w3.alloc (.cells #[.int .i64 k, .int .i64 m, .int .i64 a, .int .i64 b, .bool g, .string n, .slice ra sl rc, .slice qa nk qc] 25)) w.heap.size #[.int .i64 k, .int .i64 m, .int .i64 a, .int .i64 b, .bool g, .string n, .slice sa sl sc, .slice ao nk cap] 25) := HN3.out.on W34; have HO4 : Hid (Bk (w3.alloc (.cells #[.int .i64 k, .int .i64 m, .int .i64 a, .int .i64 b, .bool g, .string n, .slice ra sl rc, .slice qa nk qc] 25)) (w.heap.size + 1) #[.bool o0, .bool o1, .bool o2, .int .i64 o3] 27) := HO3.out.on W34
    have HG4 : Hid (Bk (w3.alloc (.cells #[.int .i64 k, .int .i64 m, .int .i64 a, .int .i64 b, .bool g, .string n, .slice ra sl rc, .slice qa nk qc] 25)) w3.heap.size #[.int .i64 k, .int .i64 m, .int .i64 a, .int .i64 b, .bool g, .string n, .slice ra sl rc, .slice qa nk qc] 25) := Bk.new w3 _ _
    have HW34 : Hid (Below w3.heap.size w3 (w3.alloc (.cells #[.int .i64 k, .int .i64 m, .int .i64 a, .int .i64 b, .bool g, .string n, .slice ra sl rc, .slice qa nk qc] 25))) := W34
    have CP := prog_any t (.agg #[.int .i64 k, .int .i64 m, .int .i64 a, .int .i64 b, .bool g, .string n, .slice ra sl rc, .slice qa nk qc]) o0 o1 o2 o3 (w3.alloc (.cells #[.int .i64 k, .int .i64 m, .int .i64 a, .int .i64 b, .bool g, .string n, .slice ra sl rc, .slice qa nk qc] 25)) (HG3.out _ W34) HSETS.out (by omega)
    have x0 := HG4.out.cell 0 (u := .int .i64 k) rfl; have x1 := HG4.out.cell 1 (u := .int .i64 m) rfl; have x2 := HG4.out.cell 2 (u := .int .i64 a) rfl; have x3 := HG4.out.cell 3 (u := .int .i64 b) rfl; have x4 := HG4.out.cell 4 (u := .bool g) rfl; have x5 := HG4.out.cell 5 (u := .string n) rfl; have x6 := HG4.out.cell 6 (u := .slice ra sl rc) rfl; have x7 := HG4.out.cell 7 (u := .slice qa nk qc) rfl
    have y0 := HO4.out.cell 0 (u := .bool o0) rfl; have y1 := HO4.out.cell 1 (u := .bool o1) rfl; have y2 := HO4.out.cell 2 (u := .bool o2) rfl; have y3 := HO4.out.cell 3 (u := .int .i64 o3) rfl
    clear W34
    go_wp2_with fail
    go_at_call 7
    refine CP.mono ?_
    clear CP x0 x1 x2 x3 x4 x5 x6 x7 y0 y1 y2 y3
    rintro e w5 ⟨b5, hres⟩
    have HB5 : Hid (Below w.heap.size w w5) := HB4.out.trans (below_less b5 HB4.out.size)
    have HW35 : Hid (Below w3.heap.size w3 w5) := HW34.out.trans (below_less b5 HW34.out.size)
    have HN5 : Hid (Bk w5 w.heap.size #[.int .i64 k, .int .i64 m, .int .i64 a, .int .i64 b, .bool g, .string n, .slice sa sl sc, .slice ao nk cap] 25) := HN4.out.on b5; have HO5 : Hid (Bk w5 (w.heap.size + 1) #[.bool o0, .bool o1, .bool o2, .int .i64 o3] 27) := HO4.out.on b5
    have HG5 : Hid (Bk w5 w3.heap.size #[.int .i64 k, .int .i64 m, .int .i64 a, .int .i64 b, .bool g, .string n, .slice ra sl rc, .slice qa nk qc] 25) := HG4.out.on b5
    clear b5 HW34
    obtain ⟨gb, hgb⟩ : ∃ gb, w3.heap.size = gb := ⟨_, rfl⟩
    have HGB : Hid (w3.heap.size = gb) := hgb
    rw [hgb] at HG5 ⊢
    rcases hres with ⟨he, rfl⟩ | ⟨he, q, na, mn, nc, hmn, hm20, rfl, hlen, hcr, hrl, hmk, hnil, hnm⟩
    · obtain ⟨E, hE⟩ : ∃ E, errP t o3 = E := ⟨_, rfl⟩
      have HE : Hid (errP t o3 = E) := hE
      rw [hE]
      have W56 : Below w5.heap.size w5 (w5.alloc (.cells #[.slice none 0 0, .int .i64 0, .int .i64 0, .slice none 0 0, .bool false, .bool false, .bool false, .int .i64 0] 34)) := (Below.refl _ _).alloc (Nat.le_refl _) _
      have HB6 : Hid (Below w.heap.size w (w5.alloc (.cells #[.slice none 0 0, .int .i64 0, .int .i64 0, .slice none 0 0, .bool false, .bool false, .bool false, .int .i64 0] 34))) := HB5.out.trans (below_less W56 HB5.out.size)
      have HN6 : Hid (Bk (w5.alloc (.cells #[.slice none 0 0, .int .i64 0, .int .i64 0, .slice none 0 0, .bool false, .bool false, .bool false, .int .i64 0] 34)) w.heap.size #[.int .i64 k, .int .i64 m, .int .i64 a, .int .i64 b, .bool g, .string n, .slice sa sl sc, .slice ao nk cap] 25) := HN5.out.on W56; have HO6 : Hid (Bk (w5.alloc (.cells #[.slice none 0 0, .int .i64 0, .int .i64 0, .slice none 0 0, .bool false, .bool false, .bool false, .int .i64 0] 34)) (w.heap.size + 1) #[.bool o0, .bool o1, .bool o2, .int .i64 o3] 27) := HO5.out.on W56
      have HG6 : Hid (Bk (w5.alloc (.cells #[.slice none 0 0, .int .i64 0, .int .i64 0, .slice none 0 0, .bool false, .bool false, .bool false, .int .i64 0] 34)) gb #[.int .i64 k, .int .i64 m, .int .i64 a, .int .i64 b, .bool g, .string n, .slice ra sl rc, .slice qa nk qc] 25) := HG5.out.on W56
      have HP6 : Hid (Bk (w5.alloc (.cells #[.slice none 0 0, .int .i64 0, .int .i64 0, .slice none 0 0, .bool false, .bool false, .bool false, .int .i64 0] 34)) w5.heap.size #[.slice none 0 0, .int .i64 0, .int .i64 0, .slice none 0 0, .bool false, .bool false, .bool false, .int .i64 0] 34) := Bk.new w5 _ _
      have HW36 : Hid (Below w3.heap.size w3 (w5.alloc (.cells #[.slice none 0 0, .int .i64 0, .int .i64 0, .slice none 0 0, .bool false, .bool false, .bool false, .int .i64 0] 34))) := HW35.out.trans (below_less W56 HW35.out.size)
      have HW56 : Hid (Below w5.heap.size w5 (w5.alloc (.cells #[.slice none 0 0, .int .i64 0, .int .i64 0, .slice none 0 0, .bool false, .bool false, .bool false, .int .i64 0] 34))) := W56
      have CQ := rprog_any t (.agg #[.int .i64 k, .int .i64 m, .int .i64 a, .int .i64 b, .bool g, .string n, .slice sa sl sc, .slice ao nk cap]) o0 o1 o2 o3 (w5.alloc (.cells #[.slice none 0 0, .int .i64 0, .int .i64 0, .slice none 0 0, .bool false, .bool false, .bool false, .int .i64 0] 34)) ((HNV.out _ HB6.out).wide HB6.out.size) HSETS.out (by omega)
      have x0 := HN6.out.cell 0 (u := .int .i64 k) rfl; have x1 := HN6.out.cell 1 (u := .int .i64 m) rfl; have x2 := HN6.out.cell 2 (u := .int .i64 a) rfl; have x3 := HN6.out.cell 3 (u := .int .i64 b) rfl; have x4 := HN6.out.cell 4 (u := .bool g) rfl; have x5 := HN6.out.cell 5 (u := .string n) rfl; have x6 := HN6.out.cell 6 (u := .slice sa sl sc) rfl; have x7 := HN6.out.cell 7 (u := .slice ao nk cap) rfl
      have y0 := HO6.out.cell 0 (u := .bool o0) rfl; have y1 := HO6.out.cell 1 (u := .bool o1) rfl; have y2 := HO6.out.cell 2 (u := .bool o2) rfl; have y3 := HO6.out.cell 3 (u := .int .i64 o3) rfl
      clear W56 hE
      go_wp2_with fail
      go_at_call 8
      refine CQ.mono ?_
      clear CQ x0 x1 x2 x3 x4 x5 x6 x7 y0 y1 y2 y3
      rintro e w7 ⟨b7, hres2⟩
      have HB7 : Hid (Below w.heap.size w w7) := HB6.out.trans (below_less b7 HB6.out.size)
      have HW37 : Hid (Below w3.heap.size w3 w7) := HW36.out.trans (below_less b7 HW36.out.size)
      have HW57 : Hid (Below w5.heap.size w5 w7) := HW56.out.trans (below_less b7 HW56.out.size)
      have HN7 : Hid (Bk w7 w.heap.size #[.int .i64 k, .int .i64 m, .int .i64 a, .int .i64 b, .bool g, .string n, .slice sa sl sc, .slice ao nk cap] 25) := HN6.out.on b7; have HO7 : Hid (Bk w7 (w.heap.size + 1) #[.bool o0, .bool o1, .bool o2, .int .i64 o3] 27) := HO6.out.on b7
      have HG7 : Hid (Bk w7 gb #[.int .i64 k, .int .i64 m, .int .i64 a, .int .i64 b, .bool g, .string n, .slice ra sl rc, .slice qa nk qc] 25) := HG6.out.on b7
      have HP7 : Hid (Bk w7 w5.heap.size #[.slice none 0 0, .int .i64 0, .int .i64 0, .slice none 0 0, .bool false, .bool false, .bool false, .int .i64 0] 34) := HP6.out.on b7
      clear b7
      rcases hres2 with ⟨he2, rfl⟩ | ⟨he2, _⟩
      · rw [HE.out]
        have W78 : Below w7.heap.size w7 (w7.alloc (.cells #[.slice none 0 0, .int .i64 0, .int .i64 0, .slice none 0 0, .bool false, .bool false, .bool false, .int .i64 0] 34)) := (Below.refl _ _).alloc (Nat.le_refl _) _
        have HB8 : Hid (Below w.heap.size w (w7.alloc (.cells #[.slice none 0 0, .int .i64 0, .int .i64 0, .slice none 0 0, .bool false, .bool false, .bool false, .int .i64 0] 34))) := HB7.out.trans (below_less W78 HB7.out.size)
        have HN8 : Hid (Bk (w7.alloc (.cells #[.slice none 0 0, .int .i64 0, .int .i64 0, .slice none 0 0, .bool false, .bool false, .bool false, .int .i64 0] 34)) w.heap.size #[.int .i64 k, .int .i64 m, .int .i64 a, .int .i64 b, .bool g, .string n, .slice sa sl sc, .slice ao nk cap] 25) := HN7.out.on W78; have HO8 : Hid (Bk (w7.alloc (.cells #[.slice none 0 0, .int .i64 0, .int .i64 0, .slice none 0 0, .bool false, .bool false, .bool false, .int .i64 0] 34)) (w.heap.size + 1) #[.bool o0, .bool o1, .bool o2, .int .i64 o3] 27) := HO7.out.on W78
        have HG8 : Hid (Bk (w7.alloc (.cells #[.slice none 0 0, .int .i64 0, .int .i64 0, .slice none 0 0, .bool false, .bool false, .bool false, .int .i64 0] 34)) gb #[.int .i64 k, .int .i64 m, .int .i64 a, .int .i64 b, .bool g, .string n, .slice ra sl rc, .slice qa nk qc] 25) := HG7.out.on W78
        have HP8 : Hid (Bk (w7.alloc (.cells #[.slice none 0 0, .int .i64 0, .int .i64 0, .slice none 0 0, .bool false, .bool false, .bool false, .int .i64 0] 34)) w5.heap.size #[.slice none 0 0, .int .i64 0, .int .i64 0, .slice none 0 0, .bool false, .bool false, .bool false, .int .i64 0] 34) := HP7.out.on W78
        have HQ8 : Hid (Bk (w7.alloc (.cells #[.slice none 0 0, .int .i64 0, .int .i64 0, .slice none 0 0, .bool false, .bool false, .bool false, .int .i64 0] 34)) w7.heap.size #[.slice none 0 0, .int .i64 0, .int .i64 0, .slice none 0 0, .bool false, .bool false, .bool false, .int .i64 0] 34) := Bk.new w7 _ _
        have HW38 : Hid (Below w3.heap.size w3 (w7.alloc (.cells #[.slice none 0 0, .int .i64 0, .int .i64 0, .slice none 0 0, .bool false, .bool false, .bool false, .int .i64 0] 34))) := HW37.out.trans (below_less W78 HW37.out.size)
        have HW78 : Hid (Below w7.heap.size w7 (w7.alloc (.cells #[.slice none 0 0, .int .i64 0, .int .i64 0, .slice none 0 0, .bool false, .bool false, .bool false, .int .i64 0] 34))) := W78
        have CS := sameprog_any none none none none 0 0 0 0 0 0 0 0 false false false 0 (w7.alloc (.cells #[.slice none 0 0, .int .i64 0, .int .i64 0, .slice none 0 0, .bool false, .bool false, .bool false, .int .i64 0] 34)) (fun W _ => equal_strs0 W) (fun W _ => code_same none none 0 0 0 [] [] W rfl (by omega) (.inl rfl) (.inl rfl) trivial)
        have x0 := HP8.out.cell 0 (u := .slice none 0 0) rfl; have x1 := HP8.out.cell 1 (u := .int .i64 0) rfl; have x2 := HP8.out.cell 2 (u := .int .i64 0) rfl; have x3 := HP8.out.cell 3 (u := .slice none 0 0) rfl; have x4 := HP8.out.cell 4 (u := .bool false) rfl; have x5 := HP8.out.cell 5 (u := .bool false) rfl; have x6 := HP8.out.cell 6 (u := .bool false) rfl; have x7 := HP8.out.cell 7 (u := .int .i64 0) rfl
        have y0 := HQ8.out.cell 0 (u := .slice none 0 0) rfl; have y1 := HQ8.out.cell 1 (u := .int .i64 0) rfl; have y2 := HQ8.out.cell 2 (u := .int .i64 0) rfl; have y3 := HQ8.out.cell 3 (u := .slice none 0 0) rfl; have y4 := HQ8.out.cell 4 (u := .bool false) rfl; have y5 := HQ8.out.cell 5 (u := .bool false) rfl; have y6 := HQ8.out.cell 6 (u := .bool false) rfl; have y7 := HQ8.out.cell 7 (u := .int .i64 0) rfl
        clear W78
        go_wp2_with fail
        go_at_call 9
        refine CS.mono ?_
        clear CS x0 x1 x2 x3 x4 x5 x6 x7 y0 y1 y2 y3 y4 y5 y6 y7
        rintro e w9 ⟨rfl, b9⟩
        have HB9 : Hid (Below w.heap.size w w9) := HB8.out.trans (below_less b9 HB8.out.size)
        have HW39 : Hid (Below w3.heap.size w3 w9) := HW38.out.trans (below_less b9 HW38.out.size)
        have hn9 := HN8.out.on b9
        have hg9 := HG8.out.on b9
        have CE := tre.same_any _ t (.agg #[.int .i64 k, .int .i64 m, .int .i64 a, .int .i64 b, .bool g, .string n, .slice ra sl rc, .slice qa nk qc]) (.agg #[.int .i64 k, .int .i64 m, .int .i64 a, .int .i64 b, .bool g, .string n, .slice sa sl sc, .slice ao nk cap]) w9 (Nat.le_refl _) (HG3.out _ HW39.out) ((HNV.out _ HB9.out).wide HB9.out.size)
        have x0 := hg9.cell 0 (u := .int .i64 k) rfl; have x1 := hg9.cell 1 (u := .int .i64 m) rfl; have x2 := hg9.cell 2 (u := .int .i64 a) rfl; have x3 := hg9.cell 3 (u := .int .i64 b) rfl; have x4 := hg9.cell 4 (u := .bool g) rfl; have x5 := hg9.cell 5 (u := .string n) rfl; have x6 := hg9.cell 6 (u := .slice ra sl rc) rfl; have x7 := hg9.cell 7 (u := .slice qa nk qc) rfl
        have y0 := hn9.cell 0 (u := .int .i64 k) rfl; have y1 := hn9.cell 1 (u := .int .i64 m) rfl; have y2 := hn9.cell 2 (u := .int .i64 a) rfl; have y3 := hn9.cell 3 (u := .int .i64 b) rfl; have y4 := hn9.cell 4 (u := .bool g) rfl; have y5 := hn9.cell 5 (u := .string n) rfl; have y6 := hn9.cell 6 (u := .slice sa sl sc) rfl; have y7 := hn9.cell 7 (u := .slice ao nk cap) rfl
        clear hn9 hg9 b9
        go_wp2_with fail
        go_at_call 10
        refine CE.mono ?_
        clear CE x0 x1 x2 x3 x4 x5 x6 x7 y0 y1 y2 y3 y4 y5 y6 y7
        rintro e w10 ⟨rfl, b10⟩
        have HB10 : Hid (Below w.heap.size w w10) := HB9.out.trans (below_less b10 HB9.out.size)
        have CA := HAW.out w10
        clear b10
        go_wp2_with (go_at_call 5; refine CA.mono ?_; clear CA; rintro e w11 ⟨rfl, b11⟩; have HB11 : Hid (Below w.heap.size w w11) := HB10.out.trans (below_less b11 HB10.out.size); clear b11)
        go_ret
        exact ⟨rfl, HB11.out⟩
      · exact absurd he2 he
    · rw [hmk]
      clear hmk
      have W56 : Below w5.heap.size w5 (w5.alloc (.cells #[.slice q.ka q.kn q.kc, .int .i64 mn, .int .i64 (prN t).2, .slice na (mn + 1) nc, .bool o0, .bool o1, .bool o2, .int .i64 o3] 34)) := (Below.refl _ _).alloc (Nat.le_refl _) _
      have HB6 : Hid (Below w.heap.size w (w5.alloc (.cells #[.slice q.ka q.kn q.kc, .int .i64 mn, .int .i64 (prN t).2, .slice na (mn + 1) nc, .bool o0, .bool o1, .bool o2, .int .i64 o3] 34))) := HB5.out.trans (below_less W56 HB5.out.size)
      have HN6 : Hid (Bk (w5.alloc (.cells #[.slice q.ka q.kn q.kc, .int .i64 mn, .int .i64 (prN t).2, .slice na (mn + 1) nc, .bool o0, .bool o1, .bool o2, .int .i64 o3] 34)) w.heap.size #[.int .i64 k, .int .i64 m, .int .i64 a, .int .i64 b, .bool g, .string n, .slice sa sl sc, .slice ao nk cap] 25) := HN5.out.on W56; have HO6 : Hid (Bk (w5.alloc (.cells #[.slice q.ka q.kn q.kc, .int .i64 mn, .int .i64 (prN t).2, .slice na (mn + 1) nc, .bool o0, .bool o1, .bool o2, .int .i64 o3] 34)) (w.heap.size + 1) #[.bool o0, .bool o1, .bool o2, .int .i64 o3] 27) := HO5.out.on W56
      have HG6 : Hid (Bk (w5.alloc (.cells #[.slice q.ka q.kn q.kc, .int .i64 mn, .int .i64 (prN t).2, .slice na (mn + 1) nc, .bool o0, .bool o1, .bool o2, .int .i64 o3] 34)) gb #[.int .i64 k, .int .i64 m, .int .i64 a, .int .i64 b, .bool g, .string n, .slice ra sl rc, .slice qa nk qc] 25) := HG5.out.on W56
      have HP6 : Hid (Bk (w5.alloc (.cells #[.slice q.ka q.kn q.kc, .int .i64 mn, .int .i64 (prN t).2, .slice na (mn + 1) nc, .bool o0, .bool o1, .bool o2, .int .i64 o3] 34)) w5.heap.size #[.slice q.ka q.kn q.kc, .int .i64 mn, .int .i64 (prN t).2, .slice na (mn + 1) nc, .bool o0, .bool o1, .bool o2, .int .i64 o3] 34) := Bk.new w5 _ _
      have HW36 : Hid (Below w3.heap.size w3 (w5.alloc (.cells #[.slice q.ka q.kn q.kc, .int .i64 mn, .int .i64 (prN t).2, .slice na (mn + 1) nc, .bool o0, .bool o1, .bool o2, .int .i64 o3] 34))) := HW35.out.trans (below_less W56 HW35.out.size)
      have HW56 : Hid (Below w5.heap.size w5 (w5.alloc (.cells #[.slice q.ka q.kn q.kc, .int .i64 mn, .int .i64 (prN t).2, .slice na (mn + 1) nc, .bool o0, .bool o1, .bool o2, .int .i64 o3] 34))) := W56
      have CQ := rprog_any t (.agg #[.int .i64 k, .int .i64 m, .int .i64 a, .int .i64 b, .bool g, .string n, .slice sa sl sc, .slice ao nk cap]) o0 o1 o2 o3 (w5.alloc (.cells #[.slice q.ka q.kn q.kc, .int .i64 mn, .int .i64 (prN t).2, .slice na (mn + 1) nc, .bool o0, .bool o1, .bool o2, .int .i64 o3] 34)) ((HNV.out _ HB6.out).wide HB6.out.size) HSETS.out (by omega)
      have x0 := HN6.out.cell 0 (u := .int .i64 k) rfl; have x1 := HN6.out.cell 1 (u := .int .i64 m) rfl; have x2 := HN6.out.cell 2 (u := .int .i64 a) rfl; have x3 := HN6.out.cell 3 (u := .int .i64 b) rfl; have x4 := HN6.out.cell 4 (u := .bool g) rfl; have x5 := HN6.out.cell 5 (u := .string n) rfl; have x6 := HN6.out.cell 6 (u := .slice sa sl sc) rfl; have x7 := HN6.out.cell 7 (u := .slice ao nk cap) rfl
      have y0 := HO6.out.cell 0 (u := .bool o0) rfl; have y1 := HO6.out.cell 1 (u := .bool o1) rfl; have y2 := HO6.out.cell 2 (u := .bool o2) rfl; have y3 := HO6.out.cell 3 (u := .int .i64 o3) rfl
      clear W56
      go_wp2_with fail
      go_at_call 8
      refine CQ.mono ?_
      clear CQ x0 x1 x2 x3 x4 x5 x6 x7 y0 y1 y2 y3
      rintro e w7 ⟨b7, hres2⟩
      have HB7 : Hid (Below w.heap.size w w7) := HB6.out.trans (below_less b7 HB6.out.size)
      have HW37 : Hid (Below w3.heap.size w3 w7) := HW36.out.trans (below_less b7 HW36.out.size)
      have HW57 : Hid (Below w5.heap.size w5 w7) := HW56.out.trans (below_less b7 HW56.out.size)
      have HN7 : Hid (Bk w7 w.heap.size #[.int .i64 k, .int .i64 m, .int .i64 a, .int .i64 b, .bool g, .string n, .slice sa sl sc, .slice ao nk cap] 25) := HN6.out.on b7; have HO7 : Hid (Bk w7 (w.heap.size + 1) #[.bool o0, .bool o1, .bool o2, .int .i64 o3] 27) := HO6.out.on b7
      have HG7 : Hid (Bk w7 gb #[.int .i64 k, .int .i64 m, .int .i64 a, .int .i64 b, .bool g, .string n, .slice ra sl rc, .slice qa nk qc] 25) := HG6.out.on b7
      have HP7 : Hid (Bk w7 w5.heap.size #[.slice q.ka q.kn q.kc, .int .i64 mn, .int .i64 (prN t).2, .slice na (mn + 1) nc, .bool o0, .bool o1, .bool o2, .int .i64 o3] 34) := HP6.out.on b7
      clear b7
      rcases hres2 with ⟨he2, _⟩ | ⟨_, ka, kn, kc, p, va, mn2, vc, hmn2, hm202, rfl, hlen2, hle2, hcr2, hrl2, hnil2, hnm2⟩
      · exact absurd he he2
      · obtain rfl : mn = mn2 := by have : (mn : Int) = mn2 := by rw [← hmn, hmn2]
                                    omega
        have hkn : kn = q.kn := by rw [← hlen2, ← hlen, hrl2.len, hrl.len]
        subst hkn
        have HLEN : Hid (q.p.1.length = q.kn) := hlen
        have HLE5 : Hid (q.kn ≤ 100000) := by unfold Hid; rw [← hlen, hrl.len, len_prN]; have := errP_len he; omega
        have HCR1 : Hid (CR w5 q.ka q.p.1) := hcr
        have HCR2 : Hid (CR w7 ka p) := hcr2
        have HRL1 : Hid (RL (QN w5 _) q.p.1 (prN t).1) := hrl
        have HRL2 : Hid (RL (QO w7) p (prN t).1) := hrl2
        have HNM1 : Hid (w5.ownsRow _ 9 1 (.slice na (mn + 1) nc) (mn + 1) (((gN t G0).names.take (mn + 1)).map Value.string)) := hnm
        have HNM2 : Hid (w7.ownsRow _ 9 1 (.slice va (mn + 1) vc) (mn + 1) (((gN t G0).names.take (mn + 1)).map Value.string)) := hnm2
        clear hlen hcr hrl hnil hnm hlen2 hle2 hcr2 hrl2 hnil2 hnm2 hmn hmn2
        have W78 : Below w7.heap.size w7 (w7.alloc (.cells #[.slice ka q.kn kc, .int .i64 mn, .int .i64 (prN t).2, .slice va (mn + 1) vc, .bool o0, .bool o1, .bool o2, .int .i64 o3] 34)) := (Below.refl _ _).alloc (Nat.le_refl _) _
        have HB8 : Hid (Below w.heap.size w (w7.alloc (.cells #[.slice ka q.kn kc, .int .i64 mn, .int .i64 (prN t).2, .slice va (mn + 1) vc, .bool o0, .bool o1, .bool o2, .int .i64 o3] 34))) := HB7.out.trans (below_less W78 HB7.out.size)
        have HN8 : Hid (Bk (w7.alloc (.cells #[.slice ka q.kn kc, .int .i64 mn, .int .i64 (prN t).2, .slice va (mn + 1) vc, .bool o0, .bool o1, .bool o2, .int .i64 o3] 34)) w.heap.size #[.int .i64 k, .int .i64 m, .int .i64 a, .int .i64 b, .bool g, .string n, .slice sa sl sc, .slice ao nk cap] 25) := HN7.out.on W78; have HO8 : Hid (Bk (w7.alloc (.cells #[.slice ka q.kn kc, .int .i64 mn, .int .i64 (prN t).2, .slice va (mn + 1) vc, .bool o0, .bool o1, .bool o2, .int .i64 o3] 34)) (w.heap.size + 1) #[.bool o0, .bool o1, .bool o2, .int .i64 o3] 27) := HO7.out.on W78
        have HG8 : Hid (Bk (w7.alloc (.cells #[.slice ka q.kn kc, .int .i64 mn, .int .i64 (prN t).2, .slice va (mn + 1) vc, .bool o0, .bool o1, .bool o2, .int .i64 o3] 34)) gb #[.int .i64 k, .int .i64 m, .int .i64 a, .int .i64 b, .bool g, .string n, .slice ra sl rc, .slice qa nk qc] 25) := HG7.out.on W78
        have HP8 : Hid (Bk (w7.alloc (.cells #[.slice ka q.kn kc, .int .i64 mn, .int .i64 (prN t).2, .slice va (mn + 1) vc, .bool o0, .bool o1, .bool o2, .int .i64 o3] 34)) w5.heap.size #[.slice q.ka q.kn q.kc, .int .i64 mn, .int .i64 (prN t).2, .slice na (mn + 1) nc, .bool o0, .bool o1, .bool o2, .int .i64 o3] 34) := HP7.out.on W78
        have HQ8 : Hid (Bk (w7.alloc (.cells #[.slice ka q.kn kc, .int .i64 mn, .int .i64 (prN t).2, .slice va (mn + 1) vc, .bool o0, .bool o1, .bool o2, .int .i64 o3] 34)) w7.heap.size #[.slice ka q.kn kc, .int .i64 mn, .int .i64 (prN t).2, .slice va (mn + 1) vc, .bool o0, .bool o1, .bool o2, .int .i64 o3] 34) := Bk.new w7 _ _
        have HW38 : Hid (Below w3.heap.size w3 (w7.alloc (.cells #[.slice ka q.kn kc, .int .i64 mn, .int .i64 (prN t).2, .slice va (mn + 1) vc, .bool o0, .bool o1, .bool o2, .int .i64 o3] 34))) := HW37.out.trans (below_less W78 HW37.out.size)
        have HW78 : Hid (Below w7.heap.size w7 (w7.alloc (.cells #[.slice ka q.kn kc, .int .i64 mn, .int .i64 (prN t).2, .slice va (mn + 1) vc, .bool o0, .bool o1, .bool o2, .int .i64 o3] 34))) := W78
        have CS := sameprog_any q.ka ka na va q.kn q.kc kc (mn + 1) nc vc mn (prN t).2 o0 o1 o2 o3 (w7.alloc (.cells #[.slice ka q.kn kc, .int .i64 mn, .int .i64 (prN t).2, .slice va (mn + 1) vc, .bool o0, .bool o1, .bool o2, .int .i64 o3] 34)) (fun W hW => by
            obtain ⟨g1, c1', cu1, e1, _, _, h11, h12, _⟩ := (HNM1.out.2.resolve_left fun h => by omega)
            obtain ⟨g2, c2', cu2, e2, _, _, h21, h22, _⟩ := (HNM2.out.2.resolve_left fun h => by omega)
            cases e1
            cases e2
            have hl : ((gN t G0).names.take (mn + 1)).length = mn + 1 := by have := HNM1.out.1; simpa using this
            refine equal_strs g1 g2 nc vc ((gN t G0).names.take (mn + 1)) (mn + 1) hl W (by omega) (fun i s hi => ?_) (fun i s hi => ?_) h11 h21
            · have hw57 := HW57.out.trans (below_less (HW78.out.trans (below_less hW HW78.out.size)) HW57.out.size)
              have := (rng.own_below' HNM1.out hw57).cellAt i (by have := (List.getElem?_eq_some_iff.1 hi).1; omega)
              rw [this, List.getElem?_map, hi]; rfl
            · have hw7 := HW78.out.trans (below_less hW HW78.out.size)
              have := (rng.own_below' HNM2.out hw7).cellAt i (by have := (List.getElem?_eq_some_iff.1 hi).1; omega)
              rw [this, List.getElem?_map, hi]; rfl) (fun W hW => by
            have hw57 := HW57.out.trans (below_less (HW78.out.trans (below_less hW HW78.out.size)) HW57.out.size)
            have hw7 := HW78.out.trans (below_less hW HW78.out.size)
            refine code_same q.ka ka q.kn q.kc kc q.p.1 p W HLEN.out (by have := HLE5.out; omega) (HCR1.out.below hw57) (HCR2.out.below hw7) (TwoR.of (HRL1.out.imp fun s l h => h.on hw57) (HRL2.out.imp fun s l h => h.on hw7) (sets_prN t HSETS.out)))
        have x0 := HP8.out.cell 0 (u := .slice q.ka q.kn q.kc) rfl; have x1 := HP8.out.cell 1 (u := .int .i64 mn) rfl; have x2 := HP8.out.cell 2 (u := .int .i64 (prN t).2) rfl; have x3 := HP8.out.cell 3 (u := .slice na (mn + 1) nc) rfl; have x4 := HP8.out.cell 4 (u := .bool o0) rfl; have x5 := HP8.out.cell 5 (u := .bool o1) rfl; have x6 := HP8.out.cell 6 (u := .bool o2) rfl; have x7 := HP8.out.cell 7 (u := .int .i64 o3) rfl
        have y0 := HQ8.out.cell 0 (u := .slice ka q.kn kc) rfl; have y1 := HQ8.out.cell 1 (u := .int .i64 mn) rfl; have y2 := HQ8.out.cell 2 (u := .int .i64 (prN t).2) rfl; have y3 := HQ8.out.cell 3 (u := .slice va (mn + 1) vc) rfl; have y4 := HQ8.out.cell 4 (u := .bool o0) rfl; have y5 := HQ8.out.cell 5 (u := .bool o1) rfl; have y6 := HQ8.out.cell 6 (u := .bool o2) rfl; have y7 := HQ8.out.cell 7 (u := .int .i64 o3) rfl
        clear W78
        go_wp2_with fail
        go_at_call 9
        refine CS.mono ?_
        clear CS x0 x1 x2 x3 x4 x5 x6 x7 y0 y1 y2 y3 y4 y5 y6 y7
        rintro e w9 ⟨rfl, b9⟩
        have HB9 : Hid (Below w.heap.size w w9) := HB8.out.trans (below_less b9 HB8.out.size)
        have HW39 : Hid (Below w3.heap.size w3 w9) := HW38.out.trans (below_less b9 HW38.out.size)
        have hn9 := HN8.out.on b9
        have hg9 := HG8.out.on b9
        have CE := tre.same_any _ t (.agg #[.int .i64 k, .int .i64 m, .int .i64 a, .int .i64 b, .bool g, .string n, .slice ra sl rc, .slice qa nk qc]) (.agg #[.int .i64 k, .int .i64 m, .int .i64 a, .int .i64 b, .bool g, .string n, .slice sa sl sc, .slice ao nk cap]) w9 (Nat.le_refl _) (HG3.out _ HW39.out) ((HNV.out _ HB9.out).wide HB9.out.size)
        have x0 := hg9.cell 0 (u := .int .i64 k) rfl; have x1 := hg9.cell 1 (u := .int .i64 m) rfl; have x2 := hg9.cell 2 (u := .int .i64 a) rfl; have x3 := hg9.cell 3 (u := .int .i64 b) rfl; have x4 := hg9.cell 4 (u := .bool g) rfl; have x5 := hg9.cell 5 (u := .string n) rfl; have x6 := hg9.cell 6 (u := .slice ra sl rc) rfl; have x7 := hg9.cell 7 (u := .slice qa nk qc) rfl
        have y0 := hn9.cell 0 (u := .int .i64 k) rfl; have y1 := hn9.cell 1 (u := .int .i64 m) rfl; have y2 := hn9.cell 2 (u := .int .i64 a) rfl; have y3 := hn9.cell 3 (u := .int .i64 b) rfl; have y4 := hn9.cell 4 (u := .bool g) rfl; have y5 := hn9.cell 5 (u := .string n) rfl; have y6 := hn9.cell 6 (u := .slice sa sl sc) rfl; have y7 := hn9.cell 7 (u := .slice ao nk cap) rfl
        clear hn9 hg9 b9
        go_wp2_with fail
        go_at_call 10
        refine CE.mono ?_
        clear CE x0 x1 x2 x3 x4 x5 x6 x7 y0 y1 y2 y3 y4 y5 y6 y7
        rintro e w10 ⟨rfl, b10⟩
        have HB10 : Hid (Below w.heap.size w w10) := HB9.out.trans (below_less b10 HB9.out.size)
        have CA := HAW.out w10
        clear b10
        go_wp2_with (go_at_call 5; refine CA.mono ?_; clear CA; rintro e w11 ⟨rfl, b11⟩; have HB11 : Hid (Below w.heap.size w w11) := HB10.out.trans (below_less b11 HB10.out.size); clear b11)
        go_ret
        exact ⟨rfl, HB11.out⟩
end Go.Proofs.YtjbcapnpknbbaaaGreat.cmp
