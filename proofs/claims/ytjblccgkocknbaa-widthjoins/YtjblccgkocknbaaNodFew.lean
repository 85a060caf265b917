/- rubricatorplain.few and Deep: whether a tree has more than so many nodes, or is deeper than so much. -/
import Derived.Test.YtjblccgkocknbaaNodMem
set_option linter.unusedVariables false
set_option linter.unusedSimpArgs false
namespace Go.Proofs.Ytjblccgkocknbaa.nod
open Go.RowKit
open Go.Proofs.Ytjblccgkocknbaa.rng (R RV ret_int ret_bool below_drewN info_parts own_below')

mutual
/-- Nodes counted down. -/
def fewN : Nd → Int → Int → Int × Bool
  | .mk _ _ _ _ _ _ _ ks, left, depth => if left - 1 < 0 ∨ depth < 0 then (left - 1, false) else fewL ks (left - 1) (depth - 1)
def fewL : List Nd → Int → Int → Int × Bool
  | [], left, _ => (left, true)
  | t :: ts, left, d => if (fewN t left d).2 then fewL ts (fewN t left d).1 d else ((fewN t left d).1, false)
end
theorem few_facts : ∀ (N : Nat) (t : Nd) (l d : Int), t.sz ≤ N → (fewN t l d).2 = true → (fewN t l d).1 + t.sz = l ∧ 0 ≤ (fewN t l d).1 := by
  intro N
  induction N with
  | zero => intro t l d h; cases t; rw [Nd.sz] at h; omega
  | succ N ih =>
    intro t l d h ht
    obtain ⟨k, m, a, b, g, n, s, ks⟩ := t
    rw [Nd.sz] at h ⊢
    rw [fewN] at ht ⊢
    by_cases c : l - 1 < 0 ∨ d < 0
    · rw [if_pos c] at ht; cases ht
    · rw [if_neg c] at ht ⊢
      have key : ∀ (ts : List Nd) (l' : Int), szL ts ≤ N → 0 ≤ l' → (fewL ts l' (d - 1)).2 = true → (fewL ts l' (d - 1)).1 + szL ts = l' ∧ 0 ≤ (fewL ts l' (d - 1)).1 := by
        intro ts
        induction ts with
        | nil => intro l' _ h0 _; rw [fewL, szL]; simp only; omega
        | cons x ts ih2 =>
          intro l' hN h0 ht2
          rw [szL] at hN ⊢
          rw [fewL] at ht2 ⊢
          by_cases c2 : (fewN x l' (d - 1)).2 = true
          · rw [if_pos c2] at ht2 ⊢
            obtain ⟨e1, e2⟩ := ih x l' (d - 1) (by omega) c2
            obtain ⟨e3, e4⟩ := ih2 _ (by omega) e2 ht2
            omega
          · rw [if_neg c2] at ht2; cases ht2
      have := key ks (l - 1) (by omega) (by omega) ht
      omega
theorem few_facts' {t : Nd} {l d : Int} (h : (fewN t l d).2 = true) : (fewN t l d).1 + t.sz = l ∧ 0 ≤ (fewN t l d).1 := few_facts _ t l d (Nat.le_refl _) h
theorem fewL_stop {t : Nd} {ts : List Nd} {l d : Int} (h : (fewN t l d).2 = false) : fewL (t :: ts) l d = ((fewN t l d).1, false) := by rw [fewL, if_neg (by rw [h]; simp)]
theorem fewL_go {t : Nd} {ts : List Nd} {l d : Int} (h : (fewN t l d).2 = true) : fewL (t :: ts) l d = fewL ts (fewN t l d).1 d := by rw [fewL, if_pos h]

theorem cell_past {w : World} {lb i : Nat} {u : Value} (o : Obj) (h : w.cell? ⟨lb, i, none⟩ = some u) : (w.alloc o).cell? ⟨lb, i, none⟩ = some u :=
  ((Below.refl w.heap.size w).alloc (Nat.le_refl _) o).cell (p := ⟨lb, i, none⟩) (World.block_lt_of_cell? w _ h) |>.trans h
theorem frozen_past {w : World} {lb i : Nat} (o : Obj) (hl : lb < w.heap.size) (h : w.frozen? ⟨lb, i, none⟩ = false) : (w.alloc o).frozen? ⟨lb, i, none⟩ = false :=
  (World.frozen?_of_block (a := ⟨lb, i, none⟩) (((Below.refl w.heap.size w).alloc (Nat.le_refl _) o).block lb hl)).trans h

theorem cell_set {w : World} {lb i : Nat} {u v : Value} (h : w.cell? ⟨lb, i, none⟩ = some u) : (w.setCell ⟨lb, i, none⟩ v).cell? ⟨lb, i, none⟩ = some v := by
  simp only [World.cell?, World.setCell, Array.getElem?_modify, if_true] at *
  cases hb : w.heap[lb]? with
  | none => rw [hb] at h; cases h
  | some o =>
    rw [hb] at h
    cases o with
    | cells c t f =>
      simp at h ⊢
      obtain ⟨h1, _⟩ := Array.getElem?_eq_some_iff.1 h
      rw [Array.getElem?_setIfInBounds, if_pos rfl, if_pos h1]
    | _ => simp at h
theorem frozen_set {w : World} {lb i j : Nat} {v : Value} (h : w.frozen? ⟨lb, j, none⟩ = false) : (w.setCell ⟨lb, i, none⟩ v).frozen? ⟨lb, j, none⟩ = false := by
  rw [← h]
  simp only [World.frozen?, World.setCell, Array.getElem?_modify, if_true]
  cases hb : w.heap[lb]? with
  | none => simp
  | some o =>
    cases o with
    | cells c t f => simp
    | _ => simp

set_option maxRecDepth 10000 in
set_option maxHeartbeats 4000000 in
theorem few_any : ∀ (N : Nat) (t : Nd) (v : Value) (B lb : Nat) (left depth : Int) (w : World), t.sz ≤ N → NV B w t v → B ≤ lb → B ≤ w.heap.size → w.cell? ⟨lb, 0, none⟩ = some (.int .i64 left) → w.frozen? ⟨lb, 0, none⟩ = false → 0 ≤ left → left ≤ 1000000 → -1 ≤ depth → depth ≤ 1000000 →
    Calls Try.prog 15 #[v, .pointer (some ⟨lb, 0, none⟩), .int .i64 depth] w fun e w' => e = .returned (.bool (fewN t left depth).2) ∧ w'.cell? ⟨lb, 0, none⟩ = some (.int .i64 (fewN t left depth).1) ∧ w'.frozen? ⟨lb, 0, none⟩ = false ∧ Below B w w' := by
  intro N
  induction N with
  | zero => intro t v B lb left depth w h; obtain ⟨k, m, a, b, g, n, s, ks⟩ := t; rw [Nd.sz] at h; omega
  | succ N ih =>
    intro t v B lb left depth w hN hv hB hBw hcell hfz h1 h2 h3 h4
    obtain ⟨k, m, a, b, g, n, s, ks, sa, sc, ao, cap, rfl, rfl, _, _, _, hk1, hk2, _, hkv⟩ := hv.open
    rw [Nd.sz] at hN
    clear hv
    have hlb : lb < w.heap.size := World.block_lt_of_cell? w _ hcell
    generalize hsl : s.length = sl
    clear hsl
    have c0 : (w.setCell ⟨lb, 0, none⟩ (.int .i64 (left - 1))).cell? ⟨lb, 0, none⟩ = some (.int .i64 (left - 1)) := cell_set hcell
    have cB := cell_past (.cells #[.int .i64 k, .int .i64 m, .int .i64 a, .int .i64 b, .bool g, .string n, .slice sa sl sc, .slice ao ks.length cap] 25) c0
    have fB := frozen_past (i := 0) (.cells #[.int .i64 k, .int .i64 m, .int .i64 a, .int .i64 b, .bool g, .string n, .slice sa sl sc, .slice ao ks.length cap] 25) (show lb < (w.setCell ⟨lb, 0, none⟩ (.int .i64 (left - 1))).heap.size by simpa [World.setCell] using hlb) (frozen_set (i := 0) (v := .int .i64 (left - 1)) hfz)
    have bA : Below B w ((w.setCell ⟨lb, 0, none⟩ (.int .i64 (left - 1))).alloc (.cells #[.int .i64 k, .int .i64 m, .int .i64 a, .int .i64 b, .bool g, .string n, .slice sa sl sc, .slice ao ks.length cap] 25)) := ((Below.refl B w).setCell (p := ⟨lb, 0, none⟩) hB _).alloc (by simpa [World.setCell] using hBw) _
    by_cases c : left - 1 < 0
    · have HR : Hid (fewN (.mk k m a b g n s ks) left depth = (left - 1, false)) := by unfold Hid; rw [fewN, if_pos (.inl c)]
      rw [HR.out]
      have HB : Hid (Below B w _) := bA
      clear hkv ih hN HR bA
      go_enter Try.func15, Try.ntmps15
      go_wp2
      go_ret
      exact ⟨rfl, cB, fB, HB.out⟩
    by_cases c' : depth < 0
    · have HR : Hid (fewN (.mk k m a b g n s ks) left depth = (left - 1, false)) := by unfold Hid; rw [fewN, if_pos (.inr c')]
      rw [HR.out]
      have HB : Hid (Below B w _) := bA
      clear hkv ih hN HR bA
      go_enter Try.func15, Try.ntmps15
      go_wp2
      go_ret
      exact ⟨rfl, cB, fB, HB.out⟩
    have HR : Hid (fewN (.mk k m a b g n s ks) left depth = fewL ks (left - 1) (depth - 1)) := by unfold Hid; rw [fewN, if_neg (by omega)]
    rw [HR.out]
    clear HR
    obtain ⟨nk, hnk⟩ : ∃ nk, ks.length = nk := ⟨_, rfl⟩
    have HL : Hid (ks.length = nk) := hnk
    have HK : Hid (KV B w ao ks) := hkv
    have HB : Hid (Below B w _) := bA
    have HI : Hid (∀ (t : Nd) (v : Value) (l' : Int) (W : World), t ∈ ks → NV B W t v → B ≤ W.heap.size → W.cell? ⟨lb, 0, none⟩ = some (.int .i64 l') → W.frozen? ⟨lb, 0, none⟩ = false → 0 ≤ l' → l' ≤ 1000000 →
        Calls Try.prog 15 #[v, .pointer (some ⟨lb, 0, none⟩), .int .i64 (depth - 1)] W fun e w' => e = .returned (.bool (fewN t l' (depth - 1)).2) ∧ w'.cell? ⟨lb, 0, none⟩ = some (.int .i64 (fewN t l' (depth - 1)).1) ∧ w'.frozen? ⟨lb, 0, none⟩ = false ∧ Below B W w') := fun t v l' W hm hv hs hc hf q1 q2 => by
      have := szL_mem hm
      exact ih t v B lb l' (depth - 1) W (by omega) hv hB hs hc hf q1 q2 (by omega) (by omega)
    rw [hnk] at hk1 cB fB HB ⊢
    have hk3 : nk ≤ 9223372036854775807 := by unfold maxLen at hk2; omega
    clear hkv ih hN bA hnk
    go_enter Try.func15, Try.ntmps15
    go_wp2
    go_loopw [25] (fun i wr => ∃ (j : Nat) (l' : Int), j ≤ nk ∧ i = .int .i64 j ∧ Hid (fewL ks (left - 1) (depth - 1) = fewL (ks.drop j) l' (depth - 1)) ∧ wr.cell? ⟨lb, 0, none⟩ = some (.int .i64 l') ∧ wr.frozen? ⟨lb, 0, none⟩ = false ∧ 0 ≤ l' ∧ l' ≤ 1000000 ∧ Hid (Below B w wr)) (fun i _ => nk - (intOf i).toNat)
    case atStart => exact ⟨0, left - 1, Nat.zero_le _, rfl, rfl, cB, fB, by omega, by omega, HB⟩
    case round =>
      obtain ⟨j, l', hj, rfl, HE, hc, hf, q1, q2, HW⟩ := hrel
      clear cB fB HB hcell hfz c0
      by_cases hlt : j < nk
      · obtain ⟨t, ht⟩ := getX HL.out hlt
        obtain ⟨bb, off, rfl, hka⟩ := (HK.out.below HW.out).some (by have := HL.out; omega)
        obtain ⟨k', m', a', b', g', n', s', kk, sa', sc', ao', cap', rfl, ⟨e0, e1, e2, e3, e4, e5, e6, e7⟩, hv'⟩ := hka.kid ht
        have hmem := List.mem_of_getElem? ht
        have HD : Hid (ks.drop j = .mk k' m' a' b' g' n' s' kk :: ks.drop (j + 1)) := dropX ht
        have hwl : lb < wr.heap.size := World.block_lt_of_cell? wr _ hc
        have hBr : B ≤ wr.heap.size := Nat.le_trans hBw HW.out.size
        generalize s'.length = sl' at *
        generalize kk.length = nk' at *
        have W1 : Below B wr (wr.alloc (.cells #[.int .i64 k', .int .i64 m', .int .i64 a', .int .i64 b', .bool g', .string n', .slice sa' sl' sc', .slice ao' nk' cap'] 25)) := (Below.refl B wr).alloc hBr _
        have C := HI.out _ _ l' (wr.alloc (.cells #[.int .i64 k', .int .i64 m', .int .i64 a', .int .i64 b', .bool g', .string n', .slice sa' sl' sc', .slice ao' nk' cap'] 25)) hmem (hv'.keep W1) (by simp; omega) (cell_past _ hc) (frozen_past _ hwl hf) q1 q2
        have HC : Hid (Below B w (wr.alloc (.cells #[.int .i64 k', .int .i64 m', .int .i64 a', .int .i64 b', .bool g', .string n', .slice sa' sl' sc', .slice ao' nk' cap'] 25))) := HW.out.trans W1
        clear HK HW hka hv' ht hmem W1 HI
        obtain ⟨r, hr⟩ : ∃ r, fewN (.mk k' m' a' b' g' n' s' kk) l' (depth - 1) = r := ⟨_, rfl⟩
        obtain ⟨r1, r2⟩ := r
        rw [hr] at C
        have HR : Hid (fewN (.mk k' m' a' b' g' n' s' kk) l' (depth - 1) = (r1, r2)) := hr
        simp only at C
        clear hr
        cases r2 with
        | false =>
          have HX : Hid (fewL ks (left - 1) (depth - 1) = (r1, false)) := by
            unfold Hid; rw [HE.out, HD.out, fewL_stop (by rw [HR.out]), HR.out]
          go_wp2_with (go_at_call 15; refine C.mono ?_; rintro e w2 ⟨rfl, d1, d2, d3⟩; have D3 : Hid (Below B _ w2) := d3; clear d3)
          go_ret
          exact ⟨by rw [HX.out]; rfl, by rw [HX.out]; exact d1, d2, HC.out.trans D3.out⟩
        | true =>
          have hfx := few_facts' (t := .mk k' m' a' b' g' n' s' kk) (l := l') (d := depth - 1) (by rw [HR.out])
          rw [HR.out] at hfx
          simp only at hfx
          obtain ⟨y1, y2⟩ := hfx
          have HX : Hid (fewL ks (left - 1) (depth - 1) = fewL (ks.drop (j + 1)) r1 (depth - 1)) := by
            unfold Hid; rw [HE.out, HD.out, fewL_go (by rw [HR.out]), HR.out]
          have y3 : r1 ≤ 1000000 := by omega
          clear y1
          go_wp2_with (go_at_call 15; refine C.mono ?_; rintro e w2 ⟨rfl, d1, d2, d3⟩; have D3 : Hid (Below B _ w2) := d3; clear d3)
          go_roundw
          case rel => exact ⟨j + 1, r1, by omega, by go_num, HX, d1, d2, y2, y3, HC.out.trans D3.out⟩
          case measure => simp [intOf]; omega
      · have HX : Hid (fewL ks (left - 1) (depth - 1) = (l', true)) := by
          unfold Hid; rw [HE.out, List.drop_of_length_le (by have := HL.out; omega), fewL]
        clear HI HK
        go_wp2
        go_ret
        exact ⟨by rw [HX.out]; rfl, by rw [HX.out]; exact hc, hf, HW.out⟩

set_option maxRecDepth 10000 in
theorem deep_any (t : Nd) (v : Value) (nodes depth : Int) (w : World) (hv : NV w.heap.size w t v) (h1 : 0 ≤ nodes) (h2 : nodes ≤ 1000000) (h3 : -1 ≤ depth) (h4 : depth ≤ 1000000) :
    Calls Try.prog 8 #[v, .int .i64 nodes, .int .i64 depth] w fun e w' => e = .returned (.bool (!(fewN t nodes depth).2)) ∧ Below w.heap.size w w' := by
  obtain ⟨k, m, a, b, g, n, s, ks, sa, sc, ao, cap, rfl, rfl, _⟩ := hv.open
  generalize s.length = sl at *
  generalize ks.length = nk at *
  have B1 : Below w.heap.size w (w.alloc (.cells #[.int .i64 k, .int .i64 m, .int .i64 a, .int .i64 b, .bool g, .string n, .slice sa sl sc, .slice ao nk cap] 25)) := (Below.refl _ w).alloc (Nat.le_refl _) _
  have B2 : Below w.heap.size w ((w.alloc (.cells #[.int .i64 k, .int .i64 m, .int .i64 a, .int .i64 b, .bool g, .string n, .slice sa sl sc, .slice ao nk cap] 25)).alloc (.cells #[.int .i64 nodes] 3)) := B1.alloc (by simp) _
  have C := few_any _ _ _ w.heap.size (w.heap.size + 1) nodes depth ((w.alloc (.cells #[.int .i64 k, .int .i64 m, .int .i64 a, .int .i64 b, .bool g, .string n, .slice sa sl sc, .slice ao nk cap] 25)).alloc (.cells #[.int .i64 nodes] 3)) (Nat.le_refl _) (hv.keep B2) (by omega) (by simp; omega) (by simp) (by simp) h1 h2 h3 h4
  have HB : Hid (Below w.heap.size w _) := B2
  clear B1 B2 hv
  generalize fewN (.mk k m a b g n s ks) nodes depth = r at *
  go_enter Try.func8, Try.ntmps8
  go_wp2_with (go_at_call 15; refine C.mono ?_; rintro e w2 ⟨rfl, d1, d2, d3⟩; have D3 : Hid (Below w.heap.size _ w2) := d3; clear d3)
  go_ret
  exact ⟨rfl, HB.out.trans D3.out⟩
theorem deep_facts {t : Nd} {nodes depth : Int} (h : (fewN t nodes depth).2 = true) : t.sz ≤ nodes := by have := few_facts' h; omega
end Go.Proofs.Ytjblccgkocknbaa.nod
