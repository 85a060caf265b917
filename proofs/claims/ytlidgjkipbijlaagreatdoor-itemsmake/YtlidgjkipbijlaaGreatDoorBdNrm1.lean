/- Texts that the proof leans on, one behind the other. -/
import Derived.Test.YtlidgjkipbijlaaGreatDoorBdPrp6
import Derived.Test.YtlidgjkipbijlaaGreatDoorBdStb3
import Derived.Test.YtlidgjkipbijlaaGreatDoorBdDcp2

section
/- A number's table tells, and nothing but new blocks and draws comes of it. -/
set_option linter.unusedVariables false
set_option linter.unusedSimpArgs false
namespace Go.Proofs.YtlidgjkipbijlaaGreatDoor.tri.num
open Go.RowKit Go.Proofs.YtlidgjkipbijlaaGreatDoor.tri
open Go.Proofs.YtlidgjkipbijlaaGreatDoor.rng (ret_int ret_bool below_drewN info_parts own_below')

set_option maxRecDepth 100000 in
set_option maxHeartbeats 4000000 in
theorem notAhead_g (nv : Int) (V : Int → Int) (tb : Nat) (s : List E) (r : Int) (w : World) (ht : TrieIs w V tb s) (hr : Ris nv 0 s) (h0 : 0 < s.length) (hr0 : 0 ≤ r) (hr1 : r ≤ 1114111) :
    Calls Tryz.prog 133 #[.pointer (some ⟨tb, 0, none⟩), .int .i64 r] w fun e w' => e = .returned (.int .i64 (cntH s r)) ∧ ∃ q, w' = w.drewN q := by
  obtain ⟨⟨ra, rc, t0, hv⟩, h3⟩ := ht
  obtain ⟨sb, t1, hst⟩ := h3 h0
  obtain ⟨b, rfl, hc⟩ := hv.some h0
  have HC : Hid (∀ i p, s[i]? = some p → w.cell? ⟨b, i * 3, none⟩ = some (.int .i64 p.1) ∧ w.cell? ⟨b, i * 3 + 1, none⟩ = some (.int .i64 p.2.1) ∧ w.cell? ⟨b, i * 3 + 2, none⟩ = some (.int .i64 (V (p.2.2)))) := hc
  have HR : Hid (Ris nv 0 s) := hr
  obtain ⟨B, hB⟩ : ∃ B : Nat, r / 256 = (B : Int) := ⟨(r / 256).toNat, by omega⟩
  have s0 := hst B (by omega)
  have s1 := hst (B + 1) (by omega)
  have l0 : cntH s (256 * (B : Int)) ≤ cntH s r := cntH_mono (by omega)
  have l1 : cntH s r ≤ cntH s (256 * ((B + 1 : Nat) : Int)) := cntH_mono (by omega)
  have l2 := cntH_le s (256 * ((B + 1 : Nat) : Int))
  have hlen := ris_len hr
  obtain ⟨C, hC⟩ : ∃ C, cntH s r = C := ⟨_, rfl⟩
  have HG : Hid (∀ i p, s[i]? = some p → (p.2.1 < r ↔ i < C)) := fun i p hp => by rw [← hC]; exact cntH_get hr hp
  obtain ⟨F, hF⟩ : ∃ F, cntH s (256 * (B : Int)) = F := ⟨_, rfl⟩
  obtain ⟨U, hU⟩ : ∃ U, cntH s (256 * ((B + 1 : Nat) : Int)) = U := ⟨_, rfl⟩
  rw [hC] at l0 l1 ⊢
  rw [hF] at l0 s0
  rw [hU] at l1 l2 s1
  obtain ⟨n, hl⟩ : ∃ n, s.length = n := ⟨_, rfl⟩
  rw [hl] at l2 h0 hlen t0
  have HL : Hid (s.length = n) := hl
  have hb0 : (B : Int) < 4353 := by omega
  have hb1 : (B : Int) + 1 < 4353 := by omega
  have hb2 : (0 : Int) ≤ (B : Int) := by omega
  have hb3 : (0 : Int) ≤ (B : Int) + 1 := by omega
  have hb4 : IntKind.i64.wrap ((B : Int) + 1) = (B : Int) + 1 := by rw [IntKind.wrap_i64]; omega
  have hb5 : ((B : Int) + 1).toNat = B + 1 := by omega
  have hb6 : IntKind.i64.wrap (B : Int) = (B : Int) := by rw [IntKind.wrap_i64]; omega
  clear hst hc hv hr h3 hC hF hU hl
  go_enter Tryz.func133, Tryz.ntmps133
  go_wp2
  go_quiet (fail)
  go_wp2
  go_loopw [6, 7] (fun f t wr => ∃ (f' t' q : Nat), f = .int .i64 f' ∧ t = .int .i64 t' ∧ f' ≤ C ∧ C ≤ t' ∧ t' ≤ n ∧ wr = w.drewN q) (fun f t _ => (intOf t).toNat - (intOf f).toNat)
  case atStart => exact ⟨F, U, _, rfl, rfl, l0, l1, l2, rfl⟩
  case round =>
    obtain ⟨f, t, q, rfl, rfl, hf, ht, htn, rfl⟩ := hrel
    by_cases hft : f < t
    · obtain ⟨M, hM⟩ : ∃ M, (f + t) / 2 = M := ⟨_, rfl⟩
      have hdiv : Int.tdiv ((f : Int) + (t : Int)) 2 = (M : Int) := by rw [Int.tdiv_eq_ediv_of_nonneg (by omega), ← hM]; omega
      have hM1 : f ≤ M := by omega
      have hM2 : M < t := by omega
      have hMn : (M : Int) < (n : Int) := by omega
      have hM0 : (0 : Int) ≤ (M : Int) := by omega
      obtain ⟨x, y, z, hp⟩ := get3 HL.out (show M < n by omega)
      obtain ⟨c1, c2, c3⟩ := HC.out M (x, y, z) hp
      simp only at c1 c2 c3
      have hg := HG.out M (x, y, z) hp
      simp only at hg
      clear hp hM
      by_cases hy : y < r
      · have hgm := hg.1 hy
        clear hg
        go_wp2
        go_roundw
        case rel => exact ⟨M + 1, t, q, by go_num, rfl, by omega, ht, htn, rfl⟩
        case measure => simp [intOf]; omega
      · have hgm : ¬ M < C := fun h => hy (hg.2 h)
        clear hg
        go_wp2
        go_roundw
        case rel => exact ⟨f, M, q, rfl, rfl, hf, by omega, by omega, rfl⟩
        case measure => simp [intOf]; omega
    · obtain rfl : f = C := by omega
      go_wp2
      go_ret
      exact ⟨rfl, _, rfl⟩

set_option maxRecDepth 100000 in
set_option maxHeartbeats 4000000 in
theorem get_g (nv : Int) (V : Int → Int) (tb : Nat) (s : List E) (r : Int) (w : World) (ht : TrieIs w V tb s) (hr : Ris nv 0 s) :
    Calls Tryz.prog 114 #[.pointer (some ⟨tb, 0, none⟩), .int .i64 r] w fun e w' => e = .returned (.tuple #[told V (at_ s r), .bool (at_ s r).isSome]) ∧ ∃ q, w' = w.drewN q := by
  have HT : Hid (TrieIs w V tb s) := ht
  obtain ⟨⟨ra, rc, t0, hv⟩, h3⟩ := ht
  have hlen := ris_len hr
  clear h3
  rcases Nat.eq_zero_or_pos s.length with h0 | h0
  · obtain rfl : s = [] := List.eq_nil_of_length_eq_zero h0
    have t0' : w.cell? ⟨tb, 0, none⟩ = some (.slice ra 0 rc) := t0
    clear t0 hv hr hlen h0 HT
    go_enter Tryz.func114, Tryz.ntmps114
    go_wp2
    go_ret2
    exact ⟨rfl, 0, rfl⟩
  obtain ⟨b, rfl, hc⟩ := hv.some h0
  have NO : (r < 0 ∨ 1114111 < r) → at_ s r = none := fun h => by
    cases he : at_ s r with
    | none => rfl
    | some v => have := at_code hr (Int.le_refl 0) he; omega
  have hnn : ((s.length : Int) == 0) = false := beq_eq_false_iff_ne.2 (by omega)
  by_cases h1 : r < 0
  · rw [NO (.inl h1)]
    clear HT hr NO hc hv
    generalize s.length = n at *
    go_enter Tryz.func114, Tryz.ntmps114
    go_wp2
    go_ret2
    exact ⟨rfl, 0, rfl⟩
  by_cases h2 : 1114111 < r
  · rw [NO (.inr h2)]
    clear HT hr NO hc hv
    generalize s.length = n at *
    go_enter Tryz.func114, Tryz.ntmps114
    go_wp2
    go_ret2
    exact ⟨rfl, 0, rfl⟩
  have C := notAhead_g nv V tb s r w HT.out hr h0 (by omega) (by omega)
  have hcl := cntH_le s r
  obtain ⟨I, hI⟩ : ∃ I, cntH s r = I := ⟨_, rfl⟩
  have HAN : Hid (I = s.length → at_ s r = none) := fun h => at_none hr (hI.trans h)
  have HAH : Hid (∀ e, s[I]? = some e → at_ s r = if e.1 ≤ r then some e.2.2 else none) := fun e he => at_here hr (by rw [hI]; exact he)
  have HC : Hid (∀ i p, s[i]? = some p → w.cell? ⟨b, i * 3, none⟩ = some (.int .i64 p.1) ∧ w.cell? ⟨b, i * 3 + 1, none⟩ = some (.int .i64 p.2.1) ∧ w.cell? ⟨b, i * 3 + 2, none⟩ = some (.int .i64 (V (p.2.2)))) := hc
  obtain ⟨n, hl⟩ : ∃ n, s.length = n := ⟨_, rfl⟩
  rw [hl] at hcl HAN hlen h0 hnn t0
  have HL : Hid (s.length = n) := hl
  rw [hI] at C hcl
  clear HT hr NO hc hv hI hl
  have tlt : tb < w.heap.size := World.block_lt_of_cell? w _ t0
  by_cases hIn : I = n
  · rw [HAN.out hIn]
    subst hIn
    have hii : ((I : Int) == (I : Int)) = true := by simp
    go_enter Tryz.func114, Tryz.ntmps114
    go_wp2_with fail
    refine C.mono ?_
    rintro e w1 ⟨rfl, q, hw1⟩
    have hb : Below w.heap.size w w1 := by rw [hw1]; exact Go.Proofs.YtlidgjkipbijlaaGreatDoor.rng.below_drewN (Below.refl _ _) _
    have HQ : Hid (w1 = w.drewN q) := hw1
    clear hw1
    have t1 := (hb.cell (p := ⟨tb, 0, none⟩) tlt).trans t0
    clear C t0
    go_wp2
    go_ret2
    exact ⟨rfl, q, HQ.out⟩
  · obtain ⟨x, y, z, hp⟩ := get3 HL.out (show I < n by omega)
    obtain ⟨c1, c2, c3⟩ := HC.out I (x, y, z) hp
    simp only at c1 c2 c3
    have blt : b < w.heap.size := World.block_lt_of_cell? w _ c1
    have hat := HAH.out (x, y, z) hp
    simp only at hat
    have hii : ((I : Int) == (n : Int)) = false := beq_eq_false_iff_ne.2 (by omega)
    have hIn' : (I : Int) < (n : Int) := by omega
    have hI0 : (0 : Int) ≤ (I : Int) := by omega
    clear hp HAN HAH HC
    by_cases hx : x ≤ r
    · rw [hat, if_pos hx]
      clear hat
      go_enter Tryz.func114, Tryz.ntmps114
      go_wp2_with fail
      refine C.mono ?_
      rintro e w1 ⟨rfl, q, hw1⟩
      have hb : Below w.heap.size w w1 := by rw [hw1]; exact Go.Proofs.YtlidgjkipbijlaaGreatDoor.rng.below_drewN (Below.refl _ _) _
      have HQ : Hid (w1 = w.drewN q) := hw1
      clear hw1
      have t1 := (hb.cell (p := ⟨tb, 0, none⟩) tlt).trans t0
      have d1 := (hb.cell (p := ⟨b, I * 3, none⟩) blt).trans c1
      have d3 := (hb.cell (p := ⟨b, I * 3 + 2, none⟩) blt).trans c3
      clear C t0 c1 c2 c3
      go_wp2
      go_ret2
      exact ⟨rfl, q, HQ.out⟩
    · rw [hat, if_neg hx]
      clear hat
      go_enter Tryz.func114, Tryz.ntmps114
      go_wp2_with fail
      refine C.mono ?_
      rintro e w1 ⟨rfl, q, hw1⟩
      have hb : Below w.heap.size w w1 := by rw [hw1]; exact Go.Proofs.YtlidgjkipbijlaaGreatDoor.rng.below_drewN (Below.refl _ _) _
      have HQ : Hid (w1 = w.drewN q) := hw1
      clear hw1
      have t1 := (hb.cell (p := ⟨tb, 0, none⟩) tlt).trans t0
      have d1 := (hb.cell (p := ⟨b, I * 3, none⟩) blt).trans c1
      clear C t0 c1 c2 c3
      go_wp2
      go_ret2
      exact ⟨rfl, q, HQ.out⟩
end Go.Proofs.YtlidgjkipbijlaaGreatDoor.tri.num
namespace Go.Proofs.YtlidgjkipbijlaaGreatDoor.nrm
open Go.Shelf Go.RowKit Go.Lib Go.Sort Go.Proofs
open Go.Proofs.YtlidgjkipbijlaaGreatDoor.prp Go.Proofs.YtlidgjkipbijlaaGreatDoor.nfd Go.Proofs.YtlidgjkipbijlaaGreatDoor.tri

theorem alloc_drewN (w : World) (o : Obj) (q : Nat) : (w.alloc o).drewN q = grow (w.drewN q) #[o] := by rw [alloc_eq_grow]; rfl
set_option maxHeartbeats 2000000 in
set_option maxRecDepth 1000000 in
theorem of_g (tb vb vc : Nat) (vals : List (Int)) (s : List tri.E) (F : Int → Int) (r : Int) (w : World) (h : prp.num.TabIs w tb vb vals s F) :
    Calls Tryz.prog 90 #[.agg #[.pointer (some ⟨tb, 0, none⟩), .slice (some ⟨vb, 0, none⟩) vals.length vc], .int .i64 r] w fun e w' => e = .returned (.int .i64 (F r)) ∧ ∃ q os, w' = grow (w.drewN q) os := by
  have hb0 := (Below.refl w.heap.size w).alloc (Nat.le_refl _) (.cells #[.pointer (some ⟨tb, 0, none⟩), .slice (some ⟨vb, 0, none⟩) vals.length vc] 95)
  have h' := h.below hb0
  have GE := tri.num.get_g _ _ tb s r _ h'.tr h'.ris
  have nb : (w.alloc (.cells #[.pointer (some ⟨tb, 0, none⟩), .slice (some ⟨vb, 0, none⟩) vals.length vc] 95)).heap[w.heap.size]? = some (.cells #[.pointer (some ⟨tb, 0, none⟩), .slice (some ⟨vb, 0, none⟩) vals.length vc] 95 (0, 0)) := World.alloc_heap_new _ _
  have hpos : 0 < vals.length := (List.getElem?_eq_some_iff.1 h.head).1
  have hv0 := h'.vs 0 _ h.head
  by_cases hr : 0 ≤ r ∧ r ≤ 1114111
  · obtain ⟨i, h1, h2⟩ := h.tell r hr.1 hr.2
    have he : tri.num.told (fun i => vals.getD i.toNat 0) (at_ s r) = (.int .i64 (F r)) := by
      rw [h1]
      unfold tri.num.told
      simp only [Int.toNat_natCast]
      rw [List.getD_eq_getElem?_getD, h2]; rfl
    rw [he, h1] at GE
    simp only [Option.isSome_some] at GE
    clear h h' h1 h2 he hr hv0 hb0
    generalize vals.length = vn at *
    go_enter Tryz.func90, Tryz.ntmps90
    go_wp2_with fail
    refine GE.mono ?_
    rintro e w1 ⟨rfl, q, hw1⟩
    have HW : Hid (w1 = grow (w.drewN q) #[.cells #[.pointer (some ⟨tb, 0, none⟩), .slice (some ⟨vb, 0, none⟩) vn vc] 95]) := hw1.trans (alloc_drewN _ _ _)
    clear GE hw1
    go_wp2
    go_ret
    exact ⟨rfl, _, _, HW.out⟩
  · have hn : at_ s r = none := by
      cases he : at_ s r with
      | none => rfl
      | some v => have := tri.at_code h.ris (Int.le_refl 0) he; omega
    have hF : F r = F (-1) := h.out r (by omega)
    rw [hn] at GE
    rw [hF]
    simp only [Option.isSome_none, tri.num.told] at GE
    clear h h' hn hr hb0 hF
    have hpos' : (0 : Int) < (vals.length : Int) := by omega
    generalize vals.length = vn at *
    go_enter Tryz.func90, Tryz.ntmps90
    go_wp2_with fail
    refine GE.mono ?_
    rintro e w1 ⟨rfl, q, hw1⟩
    have hb1 : Below (w.alloc (.cells #[.pointer (some ⟨tb, 0, none⟩), .slice (some ⟨vb, 0, none⟩) vn vc] 95)).heap.size (w.alloc (.cells #[.pointer (some ⟨tb, 0, none⟩), .slice (some ⟨vb, 0, none⟩) vn vc] 95)) w1 := by rw [hw1]; exact Go.Proofs.YtlidgjkipbijlaaGreatDoor.rng.below_drewN (Below.refl _ _) _
    have HW : Hid (w1 = grow (w.drewN q) #[.cells #[.pointer (some ⟨tb, 0, none⟩), .slice (some ⟨vb, 0, none⟩) vn vc] 95]) := hw1.trans (alloc_drewN _ _ _)
    clear GE hw1
    have hv1 := (hb1.cell (p := ⟨vb, 0, none⟩) (World.block_lt_of_cell? _ _ hv0)).trans hv0
    have nb1 := (hb1.block _ (Array.getElem?_eq_some_iff.1 nb).1).trans nb
    have k1 := cell_of_row w1 w.heap.size 1 _ _ _ nb1
    simp at k1
    clear hv0 nb nb1 hb1
    go_wp2
    go_ret
    exact ⟨rfl, _, _, HW.out⟩
/-- A code point's class. -/
abbrev ccc (r : Int) : Int := iF comL r
set_option maxRecDepth 1000000 in
theorem combining_g (t : Nat) (r : Int) (w : World) (h : Tabs w t) : Calls Tryz.prog 71 #[.pointer (some ⟨t, 0, none⟩), .int .i64 r] w fun e w' => e = .returned (.int .i64 (ccc r)) ∧ ∃ q os, w' = grow (w.drewN q) os := by
  have C := prp.made_t t w h
  obtain ⟨tb, vb, vc, vals, s, c0, c1, ht⟩ := h.com
  have D := of_g tb vb vc _ s _ r w ht
  clear h ht
  unfold ccc
  generalize iF comL r = X at *
  generalize vals.length = m at *
  go_enter Tryz.func71, Tryz.ntmps71
  go_wp2_with fail
  refine C.mono ?_
  rintro e w1 ⟨rfl, hw⟩
  rw [hw]
  clear C hw
  go_wp2_with fail
  refine D.mono ?_
  rintro e w2 ⟨rfl, hb⟩
  have HB : Hid (∃ q os, w2 = grow (w.drewN q) os) := hb
  clear D hb
  go_wp2
  go_ret
  exact ⟨rfl, HB.out⟩
/-- The key of an item: its code point's class. -/
def kI (x : nfd.I) : Int := ccc x.1
theorem below_grown {w : World} (n : Nat) (os : Array Obj) : Below w.heap.size w (grow (w.drewN n) os) := ⟨rfl, rfl, rfl, by rw [size_grow]; exact Nat.le_add_right _ _, fun k hk => by rw [heap_grow_old _ _ (by exact hk)]; rfl⟩
end Go.Proofs.YtlidgjkipbijlaaGreatDoor.nrm
end

section
/- The comparison that norm.order hands to the sort. -/
set_option linter.unusedVariables false
set_option linter.unusedSimpArgs false
namespace Go.Proofs.YtlidgjkipbijlaaGreatDoor.nrm
open Go.Shelf Go.RowKit Go.Lib Go.Sort Go.Proofs
open Go.Proofs.YtlidgjkipbijlaaGreatDoor.prp Go.Proofs.YtlidgjkipbijlaaGreatDoor.nfd Go.Proofs.YtlidgjkipbijlaaGreatDoor.tri

set_option maxHeartbeats 4000000 in
set_option maxRecDepth 1000000 in
theorem order_closure (x y : nfd.I) (t tb : Nat) (W : World) (h : Tabs W t) (hb : Boxed W tb 62 (.pointer (some ⟨t, 0, none⟩))) :
    Calls Tryz.prog 92 #[.agg (nfd.encI x).toArray, .agg (nfd.encI y).toArray, .pointer (some ⟨tb, 0, none⟩)] W fun e w' => e = .returned (.int .i64 (Lib.compareInt (kI x) (kI y))) ∧ ∃ q os', w' = grow (W.drewN q) os' := by
  obtain ⟨x1, x2, x3⟩ := x
  obtain ⟨y1, y2, y3⟩ := y
  have mixed := nfd.mixed
  obtain ⟨WA, hWA⟩ : ∃ WA, WA = (W.alloc (.cells #[.int .i64 x1, .int .i64 x2, .int .i64 x3] 30)).alloc (.cells #[.int .i64 y1, .int .i64 y2, .int .i64 y3] 30) := ⟨_, rfl⟩
  have bWA : Below W.heap.size W WA := by rw [hWA]; exact ((Below.refl _ W).alloc (Nat.le_refl _) _).alloc (by simp) _
  have zWA : WA.heap.size = W.heap.size + 2 := by rw [hWA]; simp
  have n0 : WA.heap[W.heap.size]? = some (.cells #[.int .i64 x1, .int .i64 x2, .int .i64 x3] 30 (0, 0)) := by rw [hWA]; exact (Below.heap_alloc _ _ _ (by simp)).trans (World.alloc_heap_new _ _)
  have n1 : WA.heap[W.heap.size + 1]? = some (.cells #[.int .i64 y1, .int .i64 y2, .int .i64 y3] 30 (0, 0)) := by rw [hWA]; have := World.alloc_heap_new (W.alloc (.cells #[.int .i64 x1, .int .i64 x2, .int .i64 x3] 30)) (.cells #[.int .i64 y1, .int .i64 y2, .int .i64 y3] 30); rwa [World.size_alloc] at this
  have ct : WA.cell? ⟨tb, 0, none⟩ = some (.pointer (some ⟨t, 0, none⟩)) := (bWA.cell (p := ⟨tb, 0, none⟩) hb.lt).trans hb.cell
  have cx := cell_of_row WA W.heap.size 0 _ _ _ n0
  have cy := cell_of_row WA (W.heap.size + 1) 0 _ _ _ n1
  simp at cx cy
  have ct' : ∀ n os, (grow (WA.drewN n) os).cell? ⟨tb, 0, none⟩ = some (.pointer (some ⟨t, 0, none⟩)) := fun n os => cell_grown (by have := hb.lt; show tb < WA.heap.size; omega) ct n os
  have cx' : ∀ n os, (grow (WA.drewN n) os).cell? ⟨W.heap.size, 0, none⟩ = some (.int .i64 x1) := fun n os => cell_grown (by show W.heap.size < WA.heap.size; omega) cx n os
  have cy' : ∀ n os, (grow (WA.drewN n) os).cell? ⟨W.heap.size + 1, 0, none⟩ = some (.int .i64 y1) := fun n os => cell_grown (by show W.heap.size + 1 < WA.heap.size; omega) cy n os
  have HT : ∀ n os, Tabs (grow (WA.drewN n) os) t := fun n os => h.below (bWA.trans ((below_grown n os).mono (by omega)))
  obtain ⟨cf, hcf⟩ : ∃ cf : Int → Int, cf = ccc := ⟨_, rfl⟩
  have K1 : ∀ r n os, Calls Tryz.prog 71 #[.pointer (some ⟨t, 0, none⟩), .int .i64 r] (grow (WA.drewN n) os) fun e w' => e = .returned (.int .i64 (cf r)) ∧ ∃ q os', w' = grow ((grow (WA.drewN n) os).drewN q) os' := fun r n os => by rw [hcf]; exact combining_g t r (grow (WA.drewN n) os) (HT n os)
  have K3 : ∀ a b n os, Calls Tryz.prog 93 #[.int .i64 a, .int .i64 b] (grow (WA.drewN n) os) fun e w' => e = .returned (.int .i64 (Lib.compareInt a b)) ∧ ∃ q os', w' = grow ((grow (WA.drewN n) os).drewN q) os' := fun a b n os => (Tryz.cmp_Compare_int a b (grow (WA.drewN n) os)).mono (fun e w' hh => by
    obtain ⟨h1, h2⟩ := hh
    exact ⟨h1, 0, #[], by rw [grow_empty]; exact h2⟩)
  have HW : Hid (∀ n os, ∃ q os', grow (WA.drewN n) os = grow (W.drewN q) os') := fun n os => by
    refine ⟨n, #[.cells #[.int .i64 x1, .int .i64 x2, .int .i64 x3] 30, .cells #[.int .i64 y1, .int .i64 y2, .int .i64 y3] 30] ++ os, ?_⟩
    rw [hWA, alloc_eq_grow, alloc_eq_grow, grow_grow]
    show grow (grow (W.drewN n) _) os = _
    rw [grow_grow]
    rfl
  have HG : Hid (Lib.compareInt (kI (x1, x2, x3)) (kI (y1, y2, y3)) = Lib.compareInt (cf x1) (cf y1)) := by rw [hcf]; rfl
  rw [HG.out]
  show Calls Tryz.prog 92 #[.agg #[.int .i64 x1, .int .i64 x2, .int .i64 x3], .agg #[.int .i64 y1, .int .i64 y2, .int .i64 y3], .pointer (some ⟨tb, 0, none⟩)] W fun e w' => e = .returned (.int .i64 (Lib.compareInt (cf x1) (cf y1))) ∧ ∃ q os', w' = grow (W.drewN q) os'
  clear n0 n1 ct cx cy HT h hb bWA hcf HG
  go_enter Tryz.func92, Tryz.ntmps92
  go_wp2_with fail
  rw [← hWA]
  clear hWA zWA
  go_quiet_grown (first | (go_at_call 71; refine Calls.grown_of (K1 _ _ _)) | (go_at_call 93; refine Calls.grown_of (K3 _ _ _ _)))
  go_wp2
  go_ret
  exact ⟨rfl, HW.out _ _⟩
end Go.Proofs.YtlidgjkipbijlaaGreatDoor.nrm
end

section
/- Rows of items in memory; a part of a row, sorted. -/
set_option linter.unusedVariables false
set_option linter.unusedSimpArgs false
namespace Go.Proofs.YtlidgjkipbijlaaGreatDoor.nrm
open Go.Shelf Go.RowKit Go.Lib Go.Sort Go.Proofs
open Go.Proofs.YtlidgjkipbijlaaGreatDoor.prp Go.Proofs.YtlidgjkipbijlaaGreatDoor.nfd

/-- The cells of items. -/
def fl (l : List nfd.I) : List Value := l.flatMap nfd.encI
theorem fl_cons (p : nfd.I) (l : List nfd.I) : fl (p :: l) = .int .i64 p.1 :: .int .i64 p.2.1 :: .int .i64 p.2.2 :: fl l := rfl
theorem fl_append (l r : List nfd.I) : fl (l ++ r) = fl l ++ fl r := by simp [fl]
theorem fl_three (x y z : Int) : fl [(x, y, z)] = [.int .i64 x, .int .i64 y, .int .i64 z] := rfl
theorem fl_length (l : List nfd.I) : (fl l).length = l.length * 3 := by
  induction l with
  | nil => rfl
  | cons x l ih => rw [fl_cons]; simp; omega
theorem fl_get : ∀ (l : List nfd.I) (i : Nat) (p : nfd.I), l[i]? = some p → (fl l)[i * 3]? = some (.int .i64 p.1) ∧ (fl l)[i * 3 + 1]? = some (.int .i64 p.2.1) ∧ (fl l)[i * 3 + 2]? = some (.int .i64 p.2.2)
  | [], i, p, h => by simp at h
  | x :: l, 0, p, h => by simp at h; subst h; exact ⟨rfl, rfl, rfl⟩
  | x :: l, i + 1, p, h => by
    have := fl_get l i p (by simpa using h)
    rw [fl_cons, show (i + 1) * 3 = i * 3 + 1 + 1 + 1 from by omega]
    simpa using this
theorem fl_one (l : List nfd.I) : ∀ u ∈ fl l, u.oneCell' = true := by
  intro u hu
  obtain ⟨q, hq, hu⟩ := List.mem_flatMap.1 hu
  exact nfd.encI_one q u hu
theorem flatK_fl (l : List nfd.I) : flatK nfd.encI 3 l.toArray = (fl l).toArray := by
  refine Array.ext (by simp [fl_length]) fun t h1 h2 => ?_
  have ht : t < l.length * 3 := by simpa using h1
  have hg : (flatK nfd.encI 3 l.toArray)[t]! = (nfd.encI l.toArray[t / 3]!)[t % 3]! := get_flatK nfd.encI 3 l.toArray t (by simpa using ht)
  rw [getElem!_pos _ t h1] at hg
  rw [hg]
  have hl : t / 3 < l.length := by omega
  have hx : l[t / 3]? = some l[t / 3] := List.getElem?_eq_getElem hl
  obtain ⟨e1, e2, e3⟩ := fl_get l (t / 3) _ hx
  have hx' : l.toArray[t / 3]! = l[t / 3] := by rw [getElem!_pos _ _ (by simpa using hl)]; simp
  rw [hx']
  have h2' : t < (fl l).length := by simpa using h2
  have goalE : (fl l)[t]? = some ((nfd.encI l[t / 3])[t % 3]!) := by
    rcases (show t % 3 = 0 ∨ t % 3 = 1 ∨ t % 3 = 2 by omega) with h | h | h
    · rw [h, show (fl l)[t]? = (fl l)[t / 3 * 3]? from congrArg (fun k => (fl l)[k]?) (by omega)]; exact e1
    · rw [h, show (fl l)[t]? = (fl l)[t / 3 * 3 + 1]? from congrArg (fun k => (fl l)[k]?) (by omega)]; exact e2
    · rw [h, show (fl l)[t]? = (fl l)[t / 3 * 3 + 2]? from congrArg (fun k => (fl l)[k]?) (by omega)]; exact e3
  have := List.getElem?_eq_getElem h2'
  rw [goalE] at this
  simpa using this

/-- v is a row of the call's own, of items l. -/
def Own3 (w : World) (base : Nat) (v : Value) (l : List nfd.I) : Prop := w.ownsRow base 30 3 v l.length (fl l)
theorem Own3.below {w w' : World} {B : Nat} {v : Value} {l : List nfd.I} (h : Own3 w B v l) (hb : Below w.heap.size w w') : Own3 w' B v l := lin.own_below h hb
theorem Own3.nil (w : World) (B : Nat) : Own3 w B (.slice none 0 0) [] := World.ownsRow_nil _ _ _ _
theorem infoItem : (Tryz.prog.info? 30).map (fun i => (i.zero, i.size, i.bytes)) = some (some (.agg #[.int .i64 0, .int .i64 0, .int .i64 0]), 3, 24) := by kernel_rfl
/-- Where a row that is not empty lies. -/
theorem Own3.some {w : World} {B : Nat} {v : Value} {l : List nfd.I} (h : Own3 w B v l) (h0 : 0 < l.length) : ∃ g cap, v = .slice (some ⟨g, 0, none⟩) l.length cap ∧ l.length ≤ cap ∧ cap ≤ maxLen ∧ B ≤ g ∧ g < w.heap.size ∧ HoldsK nfd.encI 3 w g 0 l.toArray := by
  rcases h.2 with ⟨_, hn⟩ | ⟨g, cap, cur, rfl, hg, hgg, hc, hm, hs, ht⟩
  · omega
  refine ⟨g, cap, rfl, hc, hm, hg, (Array.getElem?_eq_some_iff.1 hgg).1, ?_⟩
  unfold HoldsK
  rw [flatK_fl]
  intro j hj
  have hj' : j < l.length * 3 := by simpa [fl_length] using hj
  have h' : w.ownsRow B 30 3 (.slice (Option.some ⟨g, 0, none⟩) l.length cap) l.length (fl l) := h
  rw [Nat.zero_add]
  refine ⟨(h'.cellAt j hj').trans ?_, h'.frozenAt j⟩
  rw [getElem!_pos _ j hj]
  have : j < (fl l).length := by simpa using hj
  rw [List.getElem?_eq_getElem this]; simp
theorem holds_part {w : World} {g : Nat} {P S Q : List nfd.I} (h : HoldsK nfd.encI 3 w g 0 (P ++ (S ++ Q)).toArray) : HoldsK nfd.encI 3 w g (P.length * 3) S.toArray := by
  unfold HoldsK at *
  rw [flatK_fl] at *
  intro j hj
  have hj' : j < S.length * 3 := by simpa [fl_length] using hj
  have hJ : P.length * 3 + j < (fl (P ++ (S ++ Q))).toArray.size := by simp [fl_length]; omega
  have := h (P.length * 3 + j) hJ
  rw [Nat.zero_add] at this
  refine ⟨this.1.trans ?_, this.2⟩
  have hA : (fl (P ++ (S ++ Q)))[P.length * 3 + j]? = (fl S)[j]? := by
    rw [fl_append, fl_append, List.getElem?_append_right (by rw [fl_length]; omega), fl_length, Nat.add_sub_cancel_left, List.getElem?_append_left (by rw [fl_length]; exact hj')]
  have hB : P.length * 3 + j < (fl (P ++ (S ++ Q))).length := by simpa using hJ
  have hC : j < (fl S).length := by simpa using hj
  rw [getElem!_pos (fl (P ++ (S ++ Q))).toArray (P.length * 3 + j) hJ, getElem!_pos (fl S).toArray j hj]
  rw [List.getElem?_eq_getElem hB, List.getElem?_eq_getElem hC] at hA
  simpa using hA
/-- The row behind a sort of its part. -/
theorem own_part {w wb W : World} {B g cap n : Nat} {P S M Q : List nfd.I} (h : Own3 w B (.slice (some ⟨g, 0, none⟩) n cap) (P ++ (S ++ Q))) (hn : (P ++ (S ++ Q)).length = n) (hwb : Below w.heap.size w wb) (hl : M.length = S.length) (hS : SWK nfd.encI 3 wb g (P.length * 3) M.toArray W) :
    Own3 W B (.slice (some ⟨g, 0, none⟩) n cap) (P ++ (M ++ Q)) := by
  have h' : w.ownsRow B 30 3 (.slice (some ⟨g, 0, none⟩) n cap) (P ++ (S ++ Q)).length (fl (P ++ (S ++ Q))) := h
  rcases h'.2 with ⟨h0, _⟩ | ⟨g', cap', cur, hv, hg, hgg, hc, hm, hs, ht⟩
  · cases h0
  rw [hn] at hv
  cases hv
  obtain ⟨m, os, rfl⟩ := hS
  have hlt : g < w.heap.size := (Array.getElem?_eq_some_iff.1 hgg).1
  have hlt2 : g < wb.heap.size := Nat.lt_of_lt_of_le hlt hwb.size
  have hgb : wb.heap[g]? = some (.cells cur 30 (0, 0)) := (hwb.block g hlt).trans hgg
  unfold sortWorldK putRowK
  rw [flatK_fl]
  have hlen : (P ++ (M ++ Q)).length = n := by simp only [List.length_append] at hn ⊢; omega
  refine ⟨fl_length _, .inr ⟨g, cap, putCells id (P.length * 3) (fl M).toArray cur, by rw [hlen], hg, ?_, by rw [hlen]; rw [hn] at hc; exact hc, hm, by simp [putCells, hs], ?_⟩⟩
  · rw [heap_grow_old _ _ (by simpa using hlt2)]
    simp [putRow, mapBlock, Sort.ahead, Array.getElem?_modify, hgb, onCells]
  · rw [hlen]
    rw [hn] at ht hc
    have hcs : n * 3 ≤ cap * 3 := by omega
    apply List.ext_getElem?
    intro j
    by_cases hj : j < n * 3
    · rw [List.getElem?_take_of_lt hj, Array.getElem?_toList]
      have hcur : cur[j]? = (fl (P ++ (S ++ Q)))[j]? := by
        rw [← ht, List.getElem?_take_of_lt hj, Array.getElem?_toList]
      have hjc : j < cur.size := by omega
      have hput : (putCells id (P.length * 3) (fl M).toArray cur)[j]? = if P.length * 3 ≤ j ∧ j < P.length * 3 + (fl M).length then (fl M)[j - P.length * 3]? else cur[j]? := by
        simp only [putCells, Array.getElem?_mapIdx]
        rw [Array.getElem?_eq_getElem hjc]
        by_cases c : P.length * 3 ≤ j ∧ j < P.length * 3 + (fl M).length
        · have c2 : j - P.length * 3 < (fl M).length := by omega
          simp [c, c2, List.getElem?_eq_getElem c2]
        · simp [c]
      have app3 : ∀ X : List nfd.I, (fl (P ++ (X ++ Q)))[j]? = if j < P.length * 3 then (fl P)[j]? else if j - P.length * 3 < (fl X).length then (fl X)[j - P.length * 3]? else (fl Q)[j - P.length * 3 - (fl X).length]? := fun X => by
        rw [fl_append, fl_append]
        by_cases c1 : j < P.length * 3
        · rw [if_pos c1, List.getElem?_append_left (by rw [fl_length]; exact c1)]
        · rw [if_neg c1, List.getElem?_append_right (by rw [fl_length]; omega), fl_length P]
          by_cases c2 : j - P.length * 3 < (fl X).length
          · rw [if_pos c2, List.getElem?_append_left c2]
          · rw [if_neg c2, List.getElem?_append_right (by omega)]
      have hMS : (fl M).length = (fl S).length := by rw [fl_length, fl_length, hl]
      rw [hput, hcur, app3 S, app3 M]
      by_cases c1 : j < P.length * 3
      · rw [if_neg (by omega), if_pos c1, if_pos c1]
      · by_cases c2 : j - P.length * 3 < (fl M).length
        · rw [if_pos (by omega), if_neg c1, if_pos c2]
        · rw [if_neg (by omega), if_neg c1, if_neg c1, if_neg (by omega), if_neg c2, hMS]
    · rw [List.getElem?_take_eq_none (by omega), List.getElem?_eq_none (by rw [fl_length, hlen]; omega)]
theorem below_sorted {w0 wb W : World} {g off : Nat} {M : List nfd.I} (hb : Below w0.heap.size w0 wb) (hg : w0.heap.size ≤ g) (hS : SWK nfd.encI 3 wb g off M.toArray W) : Below w0.heap.size w0 W := by
  obtain ⟨m, os, rfl⟩ := hS
  refine hb.trans ⟨rfl, rfl, rfl, (SWK.le ⟨m, os, rfl⟩ : _), fun k hk => ?_⟩
  unfold sortWorldK putRowK
  rw [heap_grow_old _ _ (by have := hb.size; simp; omega)]
  have : g ≠ k := by omega
  simp [putRow, mapBlock, Sort.ahead, Array.getElem?_modify, this]
end Go.Proofs.YtlidgjkipbijlaaGreatDoor.nrm
end

section
/- norm.order: a part of a row stands by its classes. -/
set_option linter.unusedVariables false
set_option linter.unusedSimpArgs false
namespace Go.Proofs.YtlidgjkipbijlaaGreatDoor.nrm
open Go.Shelf Go.RowKit Go.Lib Go.Sort Go.Proofs
open Go.Proofs.YtlidgjkipbijlaaGreatDoor.prp Go.Proofs.YtlidgjkipbijlaaGreatDoor.nfd

theorem cmp_lt (a b : Int) : Lib.compareInt a b < 0 ↔ a < b := by
  unfold Lib.compareInt
  by_cases h1 : a < b
  · simp [h1]
  · by_cases h2 : b < a <;> simp [h1, h2]
theorem holdsK_below {w w' : World} {g off : Nat} {d : Array nfd.I} (h : HoldsK nfd.encI 3 w g off d) (hb : Below w.heap.size w w') (hg : g < w.heap.size) : HoldsK nfd.encI 3 w' g off d := fun j hj => by
  have := h j hj
  exact ⟨(hb.cell (p := ⟨g, off + j, none⟩) hg).trans this.1, (hb.frozen (p := ⟨g, off + j, none⟩) hg).trans this.2⟩
set_option maxRecDepth 1000000 in
theorem order_none (t : Nat) (a : Option Addr) (cap : Nat) (w : World) : Calls Tryz.prog 72 #[.pointer (some ⟨t, 0, none⟩), .slice a 0 cap] w fun e w' => e = .returned (.tuple #[]) ∧ Below w.heap.size w w' := by
  have C := nfd.sortStable_none a cap (.func (.func 92) #[] #[.pointer (some ⟨w.heap.size, 0, none⟩)]) (w.alloc (.cells #[.pointer (some ⟨t, 0, none⟩)] 62))
  have HB : Hid (Below w.heap.size w (w.alloc (.cells #[.pointer (some ⟨t, 0, none⟩)] 62))) := (Below.refl _ w).alloc (Nat.le_refl _) _
  go_enter Tryz.func72, Tryz.ntmps72
  go_wp2_with fail
  refine C.mono ?_
  rintro e w1 ⟨rfl, hw⟩
  rw [hw]
  clear C hw
  go_wp2
  go_end0
  exact ⟨rfl, HB.out⟩
set_option maxHeartbeats 1000000 in
set_option maxRecDepth 1000000 in
theorem order_any (t g cap n cs B : Nat) (w0 w : World) (P S Q : List nfd.I) (hT : Tabs w0 t) (hb : Below w0.heap.size w0 w) (hg : w0.heap.size ≤ g) (h : Own3 w B (.slice (some ⟨g, 0, none⟩) n cap) (P ++ (S ++ Q))) (hn : (P ++ (S ++ Q)).length = n) (hS0 : 0 < S.length) (hsz : n < 100000000000) :
    Calls Tryz.prog 72 #[.pointer (some ⟨t, 0, none⟩), .slice (some ⟨g, P.length * 3, none⟩) S.length cs] w fun e w' => e = .returned (.tuple #[]) ∧ ∃ M, Srt kI M ∧ FE kI S M ∧ Own3 w' B (.slice (some ⟨g, 0, none⟩) n cap) (P ++ (M ++ Q)) ∧ Below w0.heap.size w0 w' := by
  have h0 : 0 < (P ++ (S ++ Q)).length := by simp; omega
  obtain ⟨g', cap', hv, hc, hm, hB, hgl, hH⟩ := Own3.some h h0
  rw [hn] at hv
  cases hv
  have hP := holds_part hH
  obtain ⟨wb, hwb⟩ : ∃ wb, wb = w.alloc (.cells #[.pointer (some ⟨t, 0, none⟩)] 62) := ⟨_, rfl⟩
  have bb : Below w.heap.size w wb := by rw [hwb]; exact (Below.refl _ w).alloc (Nat.le_refl _) _
  have hbx : Boxed wb w.heap.size 62 (.pointer (some ⟨t, 0, none⟩)) := by rw [hwb]; exact World.alloc_heap_new _ _
  have hb0 : Below w0.heap.size w0 wb := hb.trans (bb.mono hb.size)
  have hHb := holdsK_below hP bb hgl
  have R : RowK nfd.encI 3 wb g (P.length * 3) S.toArray := ⟨nfd.encI_len, nfd.encI_one, hHb, Nat.lt_of_lt_of_le hgl bb.size⟩
  have hC : CmpLays Tryz.prog 92 #[.pointer (some ⟨w.heap.size, 0, none⟩)] nfd.encI 3 (fun x y => Lib.compareInt (kI x) (kI y)) g (P.length * 3) S.length wb := fun m os dk hs x y => by
    have hdk : dk = dk.toList.toArray := by simp
    have hSW : SWK nfd.encI 3 wb g (P.length * 3) dk.toList.toArray (sortWorldK nfd.encI 3 wb g (P.length * 3) m dk os) := ⟨m, os, by simp⟩
    refine order_closure x y t w.heap.size _ (hT.below (below_sorted hb0 hg hSW)) ?_
    show (sortWorldK nfd.encI 3 wb g (P.length * 3) m dk os).heap[w.heap.size]? = _
    unfold sortWorldK putRowK
    rw [heap_grow_old _ _ (by simpa using hbx.lt)]
    have : g ≠ w.heap.size := by omega
    have h9 : wb.heap[w.heap.size]? = some (.cells #[.pointer (some ⟨t, 0, none⟩)] 62 (0, 0)) := hbx
    simp [putRow, mapBlock, Sort.ahead, Array.getElem?_modify, this, h9]
  have C := nfd.sortStable_any 3 rfl kI (fun x y => Lib.compareInt (kI x) (kI y)) (fun x y => cmp_lt _ _) 92 #[.pointer (some ⟨w.heap.size, 0, none⟩)] g (P.length * 3) cs S.length S.toArray wb wb (enters_of Tryz.func92 (by kernel_rfl) rfl) hC R S rfl (by simp) (by simp only [List.length_append] at hn; omega) (SWK.start hHb)
  have HF : Hid (∀ M W, M.length = S.length → SWK nfd.encI 3 wb g (P.length * 3) M.toArray W → Own3 W B (.slice (some ⟨g, 0, none⟩) n cap) (P ++ (M ++ Q)) ∧ Below w0.heap.size w0 W) := fun M W hl hW => ⟨own_part h hn bb hl hW, below_sorted hb0 hg hW⟩
  rw [hwb] at C
  clear R hC hHb hP hbx bb
  generalize hSL : S.length = sl at *
  have HSL : Hid (S.length = sl) := hSL
  generalize P.length * 3 = off at *
  clear h hH h0 hSL
  go_enter Tryz.func72, Tryz.ntmps72
  go_wp2_with fail
  refine C.mono ?_
  rintro e w1 ⟨rfl, M, hM1, hM2, hM3⟩
  have HR : Hid (∃ M, Srt kI M ∧ FE kI S M ∧ Own3 w1 B (.slice (some ⟨g, 0, none⟩) n cap) (P ++ (M ++ Q)) ∧ Below w0.heap.size w0 w1) := by
    have := HF.out M w1 (by have := hM2.len; have := HSL.out; omega) (by rw [hwb]; exact hM3)
    exact ⟨M, hM1, hM2, this.1, this.2⟩
  clear C hM1 hM2 hM3
  go_wp2
  go_end0
  exact ⟨rfl, HR.out⟩
end Go.Proofs.YtlidgjkipbijlaaGreatDoor.nrm
end

section
/- norm.apart: what items are made of. -/
set_option linter.unusedVariables false
set_option linter.unusedSimpArgs false
namespace Go.Proofs.YtlidgjkipbijlaaGreatDoor.nrm
open Go.Shelf Go.RowKit Go.Lib Go.Sort Go.Proofs
open Go.Proofs.YtlidgjkipbijlaaGreatDoor.prp Go.Proofs.YtlidgjkipbijlaaGreatDoor.nfd Go.Proofs.YtlidgjkipbijlaaGreatDoor.lin Go.Proofs.YtlidgjkipbijlaaGreatDoor.dcp

/-- The value v reads as the items l. -/
def IVI (w : World) (v : Value) (l : List nfd.I) : Prop := ∃ a c, v = .slice a l.length c ∧ (0 < l.length → ∃ b o, a = some ⟨b, o, none⟩ ∧ ∀ (i : Nat) (p : nfd.I), l[i]? = some p → w.cell? ⟨b, o + i * 3, none⟩ = some (.int .i64 p.1) ∧ w.cell? ⟨b, o + i * 3 + 1, none⟩ = some (.int .i64 p.2.1) ∧ w.cell? ⟨b, o + i * 3 + 2, none⟩ = some (.int .i64 p.2.2))
theorem IVI.below {w w' : World} {v : Value} {l : List nfd.I} (h : IVI w v l) (hb : Below w.heap.size w w') : IVI w' v l := by
  obtain ⟨a, c, rfl, hv⟩ := h
  refine ⟨a, c, rfl, fun h0 => ?_⟩
  obtain ⟨b, o, rfl, hc⟩ := hv h0
  refine ⟨b, o, rfl, fun i p hi => ?_⟩
  obtain ⟨h1, h2, h3⟩ := hc i p hi
  exact ⟨(hb.cell (World.block_lt_of_cell? w _ h1)).trans h1, (hb.cell (World.block_lt_of_cell? w _ h2)).trans h2, (hb.cell (World.block_lt_of_cell? w _ h3)).trans h3⟩
theorem Own3.iv {w : World} {B : Nat} {v : Value} {l : List nfd.I} (h : Own3 w B v l) : IVI w v l := by
  rcases Nat.eq_zero_or_pos l.length with h0 | h0
  · obtain ⟨a, c, rfl⟩ := own_slice h
    exact ⟨a, c, rfl, fun h => by omega⟩
  · obtain ⟨g, cap, rfl, _, _, _, _, hH⟩ := h.some h0
    refine ⟨_, cap, rfl, fun _ => ⟨g, 0, rfl, fun i p hi => ?_⟩⟩
    obtain ⟨e1, e2, e3⟩ := fl_get l i p hi
    have hil : i < l.length := (List.getElem?_eq_some_iff.1 hi).1
    have h' : w.ownsRow B 30 3 (.slice (Option.some ⟨g, 0, none⟩) l.length cap) l.length (fl l) := h
    rw [Nat.zero_add]
    exact ⟨(h'.cellAt _ (by omega)).trans e1, (h'.cellAt _ (by omega)).trans e2, (h'.cellAt _ (by omega)).trans e3⟩
/-- An item's parts, with its bytes. -/
def part3 (x : nfd.I) : List nfd.I := (fullL x.1).map fun r => (r, x.2.1, x.2.2)
def apL (l : List nfd.I) : List nfd.I := l.flatMap part3
theorem part3_len (x : nfd.I) : (part3 x).length = (fullL x.1).length := by unfold part3; rw [List.length_map]
theorem apL_len (l : List nfd.I) : (apL l).length ≤ l.length * 9 := by
  induction l with
  | nil => simp [apL]
  | cons x l ih =>
    have : (apL (x :: l)).length = (part3 x).length + (apL l).length := by unfold apL; rw [List.flatMap_cons, List.length_append]
    have := full_len x.1
    rw [part3_len] at *
    simp only [List.length_cons]
    omega
theorem one3_new (w : World) (x y z : Value) (t : TypeId) : ∀ (j : Nat) u, [x, y, z][j]? = some u → (w.alloc (.cells #[x, y, z] t)).cell? ((⟨w.heap.size, 0, none⟩ : Addr).add j) = some u := by
  intro j u hj
  match j, hj with
  | 0, hj => simpa [Addr.add_lit] using hj
  | 1, hj => simpa [Addr.add_lit] using hj
  | 2, hj => simpa [Addr.add_lit] using hj
set_option maxHeartbeats 4000000 in
set_option maxRecDepth 1000000 in
theorem apart_any (t : Nat) (v : Value) (l : List nfd.I) (w : World) (hT : Tabs w t) (hv : IVI w v l) (hok : ∀ x ∈ l, okI x.1) (hl : l.length ≤ 100000) :
    Calls Tryz.prog 70 #[.pointer (some ⟨t, 0, none⟩), v] w fun e w' => ∃ v, e = .returned v ∧ Own3 w' w.heap.size v (apL l) ∧ Below w.heap.size w w' := by
  obtain ⟨i0, hi, hz0, hz1, hz2⟩ := rng.info_parts infoItem
  obtain ⟨ao, cap, rfl, hcells⟩ := hv
  have HT : Hid (Tabs w t) := hT
  have HC : Hid (∀ (k : Nat), k < l.length → ∃ r s e b o, ao = some ⟨b, o, none⟩ ∧ w.cell? ⟨b, o + k * 3, none⟩ = some (.int .i64 r) ∧ w.cell? ⟨b, o + k * 3 + 1, none⟩ = some (.int .i64 s) ∧ w.cell? ⟨b, o + k * 3 + 2, none⟩ = some (.int .i64 e) ∧ okI r ∧ apL (l.take (k + 1)) = apL (l.take k) ++ (fullL r).map (fun q => (q, s, e))) := fun k hk => by
    obtain ⟨b, o, e, hc⟩ := hcells (by omega)
    obtain ⟨c1, c2, c3⟩ := hc k _ (List.getElem?_eq_getElem hk)
    refine ⟨_, _, _, b, o, e, c1, c2, c3, hok _ (List.getElem_mem hk), ?_⟩
    unfold apL
    rw [List.take_succ_eq_append_getElem hk, List.flatMap_append]
    simp [part3]
  have HLN : Hid (∀ k, (apL (l.take k)).length ≤ 900000) := fun k => by
    have := apL_len (l.take k)
    rw [List.length_take] at this
    omega
  have HALL : Hid (apL (l.take l.length) = apL l) := by rw [List.take_length]; rfl
  clear hcells hok hT
  generalize hnl : l.length = nl at *
  clear hnl
  go_enter Tryz.func70, Tryz.ntmps70
  go_wp2
  go_loopw [5, 12] (fun v i wr => ∃ k : Nat, k ≤ nl ∧ i = .int .i64 k ∧ Hid (Own3 wr w.heap.size v (apL (l.take k))) ∧ Hid (Below w.heap.size w wr)) (fun _ i _ => nl - (RowKit.intOf i).toNat)
  case atStart => exact ⟨0, Nat.zero_le _, rfl, Own3.nil _ _, Below.refl _ _⟩
  case round =>
    obtain ⟨k, hk, rfl, HO, HB⟩ := hrel
    by_cases hlt : k < nl
    · have hlt' : (k : Int) < (nl : Int) := by omega
      obtain ⟨r, s, e, b, o, rfl, c1, c2, c3, hr, hap⟩ := HC.out k hlt
      have d1 := cell_below HB.out c1
      have d2 := cell_below HB.out c2
      have d3 := cell_below HB.out c3
      have hsz := HB.out.size
      obtain ⟨WR, hWR⟩ : ∃ WR, WR = wr.alloc (.cells #[.int .i64 r, .int .i64 s, .int .i64 e] 30) := ⟨_, rfl⟩
      have bA : Below wr.heap.size wr WR := by rw [hWR]; exact (Below.refl _ wr).alloc (Nat.le_refl _) _
      have nbA : WR.heap[wr.heap.size]? = some (.cells #[.int .i64 r, .int .i64 s, .int .i64 e] 30 (0, 0)) := by rw [hWR]; exact World.alloc_heap_new _ _
      have C := full_t t r WR (HT.out.below (HB.out.trans (bA.mono hsz))) hr
      rw [hWR] at C
      have HAP : Hid (apL (l.take (k + 1)) = apL (l.take k) ++ (fullL r).map (fun q => (q, s, e))) := hap
      have hfl := full_len r
      have hln := HLN.out k
      obtain ⟨ya, yc, hy⟩ := own_slice HO.out
      subst hy
      have hown0 : ∀ k', (Value.slice ya (apL (l.take k)).length yc).ownBlock = some k' → w.heap.size ≤ k' ∧ k' < wr.heap.size := fun k' e => HO.out.lt k' e
      generalize hFR : fullL r = FR at *
      generalize hAL : apL (l.take k) = AL at *
      have HAL : Hid (Own3 wr w.heap.size (.slice ya AL.length yc) AL) := HO.out
      clear c1 c2 c3 hap hr HO
      go_wp2_with fail
      refine C.mono ?_
      rintro e' w2 ⟨v2, rfl, ho2, b2⟩
      rw [← hWR] at ho2 b2
      have nb2 : w2.heap[wr.heap.size]? = some (.cells #[.int .i64 r, .int .i64 s, .int .i64 e] 30 (0, 0)) := (b2.block _ (Array.getElem?_eq_some_iff.1 nbA).1).trans nbA
      have B2 : Below wr.heap.size wr w2 := bA.trans (b2.mono bA.size)
      have zA : WR.heap.size = wr.heap.size + 1 := by rw [hWR]; simp
      obtain ⟨fa, fc, rfl, hfc⟩ := ivn_own ho2
      have HFC : Hid (∀ j, j < FR.length → ∃ fb fo q, fa = some ⟨fb, fo, none⟩ ∧ WR.heap.size ≤ fb ∧ fb < w2.heap.size ∧ w2.cell? ⟨fb, fo + j, none⟩ = some (.int .i64 q) ∧ FR.take (j + 1) = FR.take j ++ [q]) := fun j hj => by
        obtain ⟨fb, fo, e1, e2, e3⟩ := hfc (by omega)
        have h1 := e3 j hj
        refine ⟨fb, fo, FR[j], e1, e2, World.block_lt_of_cell? w2 _ h1, ?_, List.take_succ_eq_append_getElem hj⟩
        rw [h1, List.getD_eq_getElem?_getD, List.getElem?_eq_getElem hj]
        rfl
      have HO2 : Hid (Own3 w2 w.heap.size (.slice ya AL.length yc) AL) := HAL.out.below B2
      have HB2 : Hid (Below w.heap.size w w2) := HB.out.trans (B2.mono hsz)
      have HFA : Hid (FR.take FR.length = FR) := List.take_length
      have hz2' : wr.heap.size < w2.heap.size := by have := b2.size; omega
      have HNB2 : Hid (w2.heap[wr.heap.size]? = some (.cells #[.int .i64 r, .int .i64 s, .int .i64 e] 30 (0, 0))) := nb2
      clear C ho2 b2 hfc nb2 nbA bA B2 hWR HAL HB d1 d2 d3
      generalize hfn : FR.length = fn at *
      obtain ⟨ib, hib⟩ : ∃ ib, wr.heap.size = ib := ⟨_, rfl⟩
      rw [hib] at hown0 hz2' HNB2 zA ⊢
      rw [zA] at HFC
      go_wp2
      go_loopw [5, 21] (fun v i wr => ∃ j : Nat, j ≤ fn ∧ i = .int .i64 j ∧ Hid (Own3 wr w.heap.size v (AL ++ (FR.take j).map (fun q => (q, s, e)))) ∧ Hid (∀ k', v.ownBlock = some k' → k' < ib ∨ w2.heap.size ≤ k') ∧ Hid (Keep ib w2.heap.size w2 wr) ∧ Hid (Below w.heap.size w wr) ∧ w2.heap.size ≤ wr.heap.size) (fun _ i _ => fn - (RowKit.intOf i).toNat)
      case atStart => exact ⟨0, Nat.zero_le _, rfl, by show Own3 _ _ _ _; rw [List.take_zero, List.map_nil, List.append_nil]; exact HO2.out, fun k' e => .inl (hown0 k' e).2, fun _ _ _ => rfl, HB2, Nat.le_refl _⟩
      case round =>
        obtain ⟨j, hj, rfl, HO3, HPL, HKP, HB3, hsz3⟩ := hrel
        by_cases hlt2 : j < fn
        · have hlt2' : (j : Int) < (fn : Int) := by omega
          obtain ⟨fb, fo, q, rfl, hf1, hf2, hf3, hf4⟩ := HFC.out j (by omega)
          have c0 : wr.cell? ⟨fb, fo + j, none⟩ = some (.int .i64 q) := by
            have := hf3
            unfold World.cell? at this ⊢
            rw [HKP.out fb (by omega) hf2]
            exact this
          have nb3 : wr.heap[ib]? = some (.cells #[.int .i64 r, .int .i64 s, .int .i64 e] 30 (0, 0)) := (HKP.out _ (Nat.le_refl _) hz2').trans HNB2.out
          have e1 := cell_of_row wr ib 1 _ _ _ nb3
          have e2 := cell_of_row wr ib 2 _ _ _ nb3
          simp at e1 e2
          have HTK : Hid (AL ++ (FR.take (j + 1)).map (fun q => (q, s, e)) = (AL ++ (FR.take j).map (fun q => (q, s, e))) ++ [(q, s, e)]) := by show _ = _; rw [hf4, List.map_append, List.append_assoc]; rfl
          obtain ⟨ua, uc, hu⟩ := own_slice HO3.out
          subst hu
          have hln2 : (AL ++ (FR.take j).map (fun q => (q, s, e))).length ≤ 900020 := by rw [List.length_append, List.length_map, List.length_take]; omega
          generalize hLS : AL ++ (FR.take j).map (fun q => (q, s, e)) = LS at *
          have HO4 : Hid (wr.ownsRow w.heap.size 30 3 (.slice ua LS.length uc) LS.length (fl LS)) := HO3.out
          generalize hlm : LS.length = lm at *
          clear hf3 hf4 nb3 HO3
          go_wp2_with (at_builtin; refine wpList_append_own_at _ rfl _ _ 28 rfl w.heap.size 30 i0 (.agg #[.int .i64 0, .int .i64 0, .int .i64 0]) 3 24 Tryz.underlying28 hi hz0 hz1 hz2 rfl (by decide) _ _ _ rfl (HO4.out.alloc _) ⟨wr.heap.size, 0, none⟩ 1 1 [.int .i64 q, .int .i64 s, .int .i64 e] rfl rfl (one3_new _ _ _ _ _) ?c2 ?c3 ?c4 ?c5 ?_)
          case c2 => first | (intro u hu; simp at hu; rcases hu with rfl | rfl | rfl <;> rfl) | (refine ⟨?_, ?_, ?_⟩ <;> rfl)
          case c3 => unfold maxLen; omega
          case c4 => omega
          case c5 => first | omega | (simp; omega)
          intro v5 w5 hown5 hgrow5 _ hat5
          have t5 : Turns (fun k' => (Value.slice ua lm uc).ownBlock = some k') wr w5 := ((Turns.refl _ wr).alloc _).trans (.of_grown hgrow5 (fun k e => e))
          have R1 : Hid (Own3 w5 w.heap.size v5 (AL ++ (FR.take (j + 1)).map (fun q => (q, s, e)))) := by
            show Own3 _ _ _ _
            unfold Own3
            rw [HTK.out, fl_append, fl_three, List.length_append, hlm]
            exact hown5
          have R2 : Hid (∀ k', v5.ownBlock = some k' → k' < ib ∨ w2.heap.size ≤ k') := fun k' e => by
            rcases hat5 with h5 | h5
            · rw [h5] at e; exact HPL.out k' e
            · rw [h5] at e; cases e; exact .inr (by first | omega | (simp; omega))
          have R3 : Hid (Keep ib w2.heap.size w2 w5) := fun k' h1 h2 => (t5.block k' (by omega) (fun d => by have := HPL.out k' d; omega)).trans (HKP.out k' h1 h2)
          have R4 : Hid (Below w.heap.size w w5) := HB3.out.trans (t5.below (by omega) (fun k' d => (HO4.out.lt k' d).1))
          have R5 : w2.heap.size ≤ w5.heap.size := Nat.le_trans hsz3 t5.size
          clear hown5 hgrow5 hat5 t5 HO4 HPL HKP HB3
          go_wp2
          go_roundw
          case rel => exact ⟨j + 1, by omega, by go_num, R1, R2, R3, R4, R5⟩
          case measure => simp [RowKit.intOf]; omega
        · obtain rfl : j = fn := by omega
          have hlt2' : ¬ (j : Int) < (j : Int) := by omega
          obtain ⟨ua, uc, hu⟩ := own_slice HO3.out
          have R1 : Hid (Own3 wr w.heap.size (.slice ua (AL ++ (FR.take j).map (fun q => (q, s, e))).length uc) (apL (l.take (k + 1)))) := by
            have h1 := HO3.out
            rw [hu] at h1
            rw [HAP.out]
            have h2 : FR.take j = FR := by rw [← hfn]; exact List.take_length
            rw [h2] at h1 ⊢
            exact h1
          subst hu
          clear HO3
          generalize (AL ++ (FR.take j).map (fun q => (q, s, e))).length = lm at *
          go_wp2
          go_roundw
          case rel => exact ⟨k + 1, by omega, by go_num, R1, HB3⟩
          case measure => simp [RowKit.intOf]; omega
    · obtain rfl : k = nl := by omega
      have hlt' : ¬ (k : Int) < (k : Int) := by omega
      obtain ⟨ya, yc, hy⟩ := own_slice HO.out
      have R1 : Hid (Own3 wr w.heap.size (.slice ya (apL (l.take k)).length yc) (apL l)) := by
        have h1 := HO.out
        rw [hy] at h1
        rw [HALL.out] at h1 ⊢
        exact h1
      subst hy
      clear HO
      generalize (apL (l.take k)).length = tl at *
      go_wp2
      go_ret
      exact ⟨_, rfl, R1.out, HB.out⟩
end Go.Proofs.YtlidgjkipbijlaaGreatDoor.nrm
end
