/- Texts that the proof leans on, one behind the other. -/
import Derived.Test.YtlidgjkipbijlaaGreatDoorBdItm4
import Derived.Test.YtlidgjkipbijlaaGreatDoorBdItm6
import Derived.OrdersHeld
import Derived.Deep.RegionHeld3

section
/- What an edge of bytes is; the statement's own closure. -/
set_option linter.unusedVariables false
set_option linter.unusedSimpArgs false
namespace Go.Proofs.YtlidgjkipbijlaaGreatDoor.itm
open Go.RowKit Go.Shelf nrm prp
open Go.Proofs.YtlidgjkipbijlaaGreatDoor.utf (IsB lst)

/-- An edge of code points: the end, or where an item begins. -/
def Edge (f : Nat → Int) (n : Nat) (p : Int) : Prop := p = n ∨ ∃ z ∈ decI f n, z.2.1 = p
theorem items_from (f : Nat → Int) (n : Nat) (c : Bool) (x : nfd.I) (hx : x ∈ itemsL c f n) : ∃ z ∈ decI f n, z.2.1 = x.2.1 ∧ z.2.2 = x.2.2 := by
  cases c
  · exact ⟨x, hx, rfl, rfl⟩
  · have hx' : x ∈ nfdI (decI f n) := hx
    unfold nfdI at hx'
    rw [nfd.mem_ordL] at hx'
    obtain ⟨y, hy, h⟩ := List.mem_flatMap.1 hx'
    obtain ⟨r, _, rfl⟩ := List.mem_map.1 h
    exact ⟨y, hy, rfl, rfl⟩
theorem end_next (f : Nat → Int) (n : Nat) : ∀ m a, n - a = m → ∀ x ∈ utf.items f n a, x.2.2 = n ∨ ∃ z ∈ utf.items f n a, z.2.1 = x.2.2 := by
  intro m
  induction m using Nat.strongRecOn with
  | ind m ih =>
    intro a ha x hx
    by_cases h : a < n
    · have hr := utf.it_end f n a h
      rw [utf.items_step f n a h] at hx ⊢
      rcases List.mem_cons.1 hx with rfl | hx
      · by_cases h2 : (utf.it f n a).2.1 < n
        · refine .inr ⟨_, List.mem_cons_of_mem _ (by rw [utf.items_step f n _ h2]; exact List.mem_cons_self), rfl⟩
        · exact .inl (by simp only; omega)
      · rcases ih (n - (utf.it f n a).2.1) (by omega) _ rfl x hx with h3 | ⟨z, hz, h3⟩
        · exact .inl h3
        · exact .inr ⟨z, List.mem_cons_of_mem _ hz, h3⟩
    · rw [utf.items_end f n a (by omega)] at hx
      cases hx
theorem edge_end {f : Nat → Int} {n : Nat} {z : nfd.I} (hz : z ∈ decI f n) : Edge f n z.2.2 := by
  unfold decI at hz
  obtain ⟨x, hx, rfl⟩ := List.mem_map.1 hz
  rcases end_next f n n 0 rfl x hx with h | ⟨y, hy, h⟩
  · exact .inl (by simp only; omega)
  · exact .inr ⟨_, List.mem_map.2 ⟨y, hy, rfl⟩, by simp only; omega⟩
theorem edge_start {f : Nat → Int} {n : Nat} {c : Bool} {x : nfd.I} (hx : x ∈ itemsL c f n) : Edge f n x.2.1 ∧ Edge f n x.2.2 := by
  obtain ⟨z, hz, h1, h2⟩ := items_from f n c x hx
  exact ⟨.inr ⟨z, hz, h1⟩, by rw [← h2]; exact edge_end hz⟩
/-- What Span tells of places within: edges, rising. -/
theorem span_edges (f : Nat → Int) (n : Nat) (c : Bool) (a b : Nat) (hf : Fine n (itemsL c f n)) (hab : a ≤ b) (hb : b ≤ (itemsL c f n).length) :
    ∃ p q, spanP n (itemsL c f n) a b = (p, q) ∧ p ≤ q ∧ Edge f n p ∧ Edge f n q ∧ (a < b ↔ p < q) := by
  unfold spanP
  rw [if_neg (by omega)]
  by_cases h : a = b
  · subst h
    rw [if_pos rfl, Int.toNat_natCast, ls_mn]
    refine ⟨_, _, rfl, Int.le_refl _, ?_, ?_, by omega⟩
    all_goals rcases mn_is (n : Int) ((itemsL c f n).drop a) with h | ⟨y, hy, h⟩
    all_goals rw [h]
    · exact .inl rfl
    · exact (edge_start (List.mem_of_mem_drop hy)).1
    · exact .inl rfl
    · exact (edge_start (List.mem_of_mem_drop hy)).1
  · rw [if_neg (by omega), Int.toNat_natCast, Int.toNat_natCast]
    obtain ⟨y0, hy0⟩ : ∃ y, (itemsL c f n)[a]? = some y := ⟨_, List.getElem?_eq_getElem (by omega)⟩
    have hm0 : y0 ∈ seg (itemsL c f n) a b := by rw [seg_cons hy0 (by omega)]; exact List.mem_cons_self
    have hf0 := hf y0 (seg_mem hm0)
    have h1 := (mn_le (n : Int) (seg (itemsL c f n) a b)).2 y0 hm0
    have h2 := (mx_ge 0 (seg (itemsL c f n) a b)).2 y0 hm0
    refine ⟨_, _, rfl, by omega, ?_, ?_, by omega⟩
    · rcases mn_is (n : Int) (seg (itemsL c f n) a b) with h | ⟨y, hy, h⟩
      · exact .inl h
      · rw [h]; exact (edge_start (seg_mem hy)).1
    · rcases mx_is 0 (seg (itemsL c f n) a b) with h | ⟨y, hy, h⟩
      · omega
      · rw [h]; exact (edge_start (seg_mem hy)).2
set_option maxRecDepth 1000000 in
theorem edge1_any (x1 x2 x3 p : Int) (xb : Nat) (W : World) (h : W.cell? ⟨xb, 0, none⟩ = some (.int .i64 p)) :
    Calls Tryz.prog 24 #[.agg #[.int .i64 x1, .int .i64 x2, .int .i64 x3], .pointer (some ⟨xb, 0, none⟩)] W fun ex w' => ex = .returned (.bool (decide (x2 = p))) ∧ Below W.heap.size W w' := by
  have BA : Below W.heap.size W (W.alloc (.cells #[.int .i64 x1, .int .i64 x2, .int .i64 x3] 30)) := (Below.refl _ W).alloc (Nat.le_refl _) _
  have h' := cell_below BA h
  have R : Hid (Below W.heap.size W (W.alloc (.cells #[.int .i64 x1, .int .i64 x2, .int .i64 x3] 30))) := BA
  clear BA h
  by_cases e1 : x2 = p
  · subst e1
    go_enter Tryz.func24, Tryz.ntmps24
    go_wp2
    go_ret
    exact ⟨by simp, R.out⟩
  · have e3 : ¬ p = x2 := fun h => e1 h.symm
    go_enter Tryz.func24, Tryz.ntmps24
    go_wp2
    go_ret
    exact ⟨by simp [e1, e3], R.out⟩
set_option maxHeartbeats 1000000 in
set_option maxRecDepth 1000000 in
theorem eindex_any (v : Value) (l : List nfd.I) (p : Int) (xb : Nat) (w : World) (hv : IVI w v l) (hb : w.cell? ⟨xb, 0, none⟩ = some (.int .i64 p)) (hl : l.length ≤ 1000000) (hx : ∃ y ∈ l, y.2.1 = p) :
    Calls Tryz.prog 36 #[v, .func (.func 24) #[] #[.pointer (some ⟨xb, 0, none⟩)]] w fun ex w' => ∃ k : Nat, ex = .returned (.int .i64 k) ∧ Below w.heap.size w w' := by
  obtain ⟨ao, cap, rfl, hcells⟩ := hv
  have HB0 : Hid (∀ W, Below w.heap.size w W → W.cell? ⟨xb, 0, none⟩ = some (.int .i64 p)) := fun W h => cell_below h hb
  have HC : Hid (∀ k, k < l.length → ∃ x1 x2 x3 b o, l[k]? = some (x1, x2, x3) ∧ ao = some ⟨b, o, none⟩ ∧ w.cell? ⟨b, o + k * 3, none⟩ = some (.int .i64 x1) ∧ w.cell? ⟨b, o + k * 3 + 1, none⟩ = some (.int .i64 x2) ∧ w.cell? ⟨b, o + k * 3 + 2, none⟩ = some (.int .i64 x3)) := fun k hk => by
    obtain ⟨b, o, e, hc⟩ := hcells (by omega)
    obtain ⟨c1, c2, c3⟩ := hc k _ (List.getElem?_eq_getElem hk)
    exact ⟨_, _, _, b, o, List.getElem?_eq_getElem hk, e, c1, c2, c3⟩
  have HX : Hid (∃ k x1 x3, k < l.length ∧ l[k]? = some (x1, p, x3)) := by
    obtain ⟨⟨y1, y2, y3⟩, hy, rfl⟩ := hx
    obtain ⟨k, hk, e⟩ := List.getElem_of_mem hy
    exact ⟨k, y1, y3, hk, by rw [List.getElem?_eq_getElem hk, e]⟩
  clear hcells hx hb
  generalize l.length = n at *
  go_enter Tryz.func36, Tryz.ntmps36
  go_wp2
  go_loopw [8] (fun i wr => ∃ k : Nat, k ≤ n ∧ i = .int .i64 k ∧ Hid (∀ j x1 x3, j < k → l[j]? ≠ some (x1, p, x3)) ∧ Hid (Below w.heap.size w wr)) (fun i _ => n - (RowKit.intOf i).toNat)
  case atStart => exact ⟨0, Nat.zero_le _, rfl, fun j _ _ h => by omega, Below.refl _ _⟩
  case round =>
    obtain ⟨k, hk, rfl, HN, HB⟩ := hrel
    by_cases hk2 : k < n
    · have hk3 : (k : Int) < (n : Int) := by omega
      have hk0 : (0 : Int) ≤ (k : Int) := by omega
      obtain ⟨x1, x2, x3, b, o, hg, rfl, c1, c2, c3⟩ := HC.out k hk2
      have d1 := cell_below HB.out c1
      have d2 := cell_below HB.out c2
      have d3 := cell_below HB.out c3
      have C := edge1_any x1 x2 x3 p xb wr (HB0.out wr HB.out)
      have HG : Hid (l[k]? = some (x1, x2, x3)) := hg
      clear hg c1 c2 c3
      by_cases hm : x2 = p
      · rw [decide_eq_true hm] at C
        clear hm
        go_wp2_with fail
        refine C.mono ?_
        rintro ex w2 ⟨rfl, b2⟩
        have R : Hid (Below w.heap.size w w2) := HB.out.trans (b2.mono HB.out.size)
        clear C b2
        go_wp2
        go_ret
        exact ⟨k, rfl, R.out⟩
      · rw [decide_eq_false hm] at C
        have HM : Hid (¬ x2 = p) := hm
        clear hm
        go_wp2_with fail
        refine C.mono ?_
        rintro ex w2 ⟨rfl, b2⟩
        have R : Hid (Below w.heap.size w w2) := HB.out.trans (b2.mono HB.out.size)
        clear C b2
        go_wp2
        go_roundw
        case rel => exact ⟨k + 1, by omega, by go_num, fun j y y3 hj he => by
          rcases Nat.lt_or_ge j k with h | h
          · exact HN.out j y y3 h he
          · obtain rfl : j = k := by omega
            rw [HG.out] at he
            simp only [Option.some.injEq, Prod.mk.injEq] at he
            exact HM.out he.2.1, R⟩
        case measure => simp [RowKit.intOf]; omega
    · obtain ⟨j, y, y3, hj, he⟩ := HX.out
      exact absurd he (HN.out j y y3 (by omega))
set_option maxRecDepth 1000000 in
theorem econtains_any (v : Value) (l : List nfd.I) (p : Int) (xb : Nat) (w : World) (hv : IVI w v l) (hb : w.cell? ⟨xb, 0, none⟩ = some (.int .i64 p)) (hl : l.length ≤ 1000000) (hx : ∃ y ∈ l, y.2.1 = p) :
    Calls Tryz.prog 22 #[v, .func (.func 24) #[] #[.pointer (some ⟨xb, 0, none⟩)]] w fun ex w' => ex = .returned (.bool true) ∧ Below w.heap.size w w' := by
  have C := eindex_any v l p xb w hv hb hl hx
  obtain ⟨a, c, rfl, _⟩ := hv
  clear hx
  generalize l.length = n at *
  go_enter Tryz.func22, Tryz.ntmps22
  go_wp2_with fail
  refine C.mono ?_
  rintro e w1 ⟨k, rfl, b1⟩
  clear C
  have R : Hid (Below w.heap.size w w1) := b1
  have hk0 : (0 : Int) ≤ (k : Int) := by omega
  clear b1
  go_wp2
  go_ret
  exact ⟨by simp, R.out⟩
end Go.Proofs.YtlidgjkipbijlaaGreatDoor.itm
end

section
/- ItemsEdges: the closure edge. -/
set_option linter.unusedVariables false
set_option linter.unusedSimpArgs false
namespace Go.Proofs.YtlidgjkipbijlaaGreatDoor.itm
open Go.RowKit Go.Shelf nrm prp
open Go.Proofs.YtlidgjkipbijlaaGreatDoor.utf (IsB lst)

set_option maxHeartbeats 2000000 in
set_option maxRecDepth 1000000 in
theorem edge_any (p : Int) (yb y base n : Nat) (f : Nat → Int) (l : List nfd.I) (W : World) (hy : RTxt W base y n f l) (hb : W.cell? ⟨yb, 0, none⟩ = some (.pointer (some ⟨y, 0, none⟩))) (hn : n ≤ 1000) (hf : ∀ i, 0 ≤ f i ∧ f i ≤ 255) (he : Edge f n p) :
    Calls Tryz.prog 21 #[.int .i64 p, .pointer (some ⟨yb, 0, none⟩)] W fun ex w' => ex = .returned (.bool true) ∧ Below W.heap.size W w' := by
  obtain ⟨bv, iv, h1, h2, h3⟩ := hy.all
  obtain ⟨ba, bc, rfl, hib, hbc, hbm, hbn⟩ := utf.isB_own h2
  have BA : Below W.heap.size W (W.alloc (.cells #[.int .i64 p] 3)) := (Below.refl _ W).alloc (Nat.le_refl _) _
  have c2 := cell_of_row W y 0 _ _ _ h1
  simp at c2
  have c2 := cell_below BA c2
  have c1 := cell_below BA hb
  have c0 : (W.alloc (.cells #[.int .i64 p] 3)).cell? ⟨W.heap.size, 0, none⟩ = some (.int .i64 p) := cell_of_row _ _ 0 _ _ _ (World.alloc_heap_new W (.cells #[.int .i64 p] 3))
  have HBW : Hid (Below W.heap.size W (W.alloc (.cells #[.int .i64 p] 3))) := BA
  have HIB : Hid (IsB (W.alloc (.cells #[.int .i64 p] 3)) ba n f) := hib.below BA
  have HN : Hid (n ≤ bc ∧ bc ≤ 9223372036854775807) := ⟨hbc, hbm⟩
  have HF : Hid (∀ i, 0 ≤ f i ∧ f i ≤ 255) := hf
  clear h1 h2 h3 hib hbc hbm hbn BA hy hb hf
  generalize hW0 : W.alloc (.cells #[.int .i64 p] 3) = W0 at *
  by_cases hpn : p = (n : Int)
  · subst hpn
    have hq1 : ((n : Int) == (n : Int)) = true := by simp
    have hq2 : decide ((n : Int) = (n : Int)) = true := by simp
    clear he
    go_enter Tryz.func21, Tryz.ntmps21
    go_wp2
    try rw [hW0]
    refine wp_region_noPanic ?_
    refine wp_region_held_drew (S := fun w' => w'.cell? ⟨W.heap.size, 0, none⟩ = some (.int .i64 (n : Int)) ∧ w'.cell? ⟨yb, 0, none⟩ = some (.pointer (some ⟨y, 0, none⟩)) ∧ w'.cell? ⟨y, 0, none⟩ = some (.slice ba n bc)) (by kernel_rfl) ⟨c0, c1, c2⟩ (fun hHeld => ?_)
    have HC0 : Hid (W0.drew.cell? ⟨W.heap.size, 0, none⟩ = some (.int .i64 (n : Int))) := c0
    have HC1 : Hid (W0.drew.cell? ⟨yb, 0, none⟩ = some (.pointer (some ⟨y, 0, none⟩))) := c1
    have HC2 : Hid (W0.drew.cell? ⟨y, 0, none⟩ = some (.slice ba n bc)) := c2
    have hS : W0.drew.cell? ⟨W.heap.size, 0, none⟩ = some (.int .i64 (n : Int)) ∧ W0.drew.cell? ⟨yb, 0, none⟩ = some (.pointer (some ⟨y, 0, none⟩)) ∧ W0.drew.cell? ⟨y, 0, none⟩ = some (.slice ba n bc) := ⟨c0, c1, c2⟩
    have HBD : Hid (Below W.heap.size W W0.drew) := HBW.out.drew
    have HIBD : Hid (IsB W0.drew ba n f) := HIB.out.below ⟨rfl, rfl, rfl, Nat.le_refl _, fun _ _ => rfl⟩
    clear hW0 c0 c1 c2 HBW HIB
    generalize W0.drew = V at *
    refine wpAnyH_take (i := 0) (v := ?_) rfl (by kernel_rfl) (by kernel_rfl) (by kernel_rfl) (fun _ _ _ h => h) (Or.inl ⟨by rfl, ?_⟩) (by assumption) ?_
    rotate_left
    · (intro w' hSw; (try dsimp only at hSw); go_simp; try with_reducible rfl)
    try simp only [Act.put, List.getElem_toArray, List.getElem_cons_zero, List.getElem_cons_succ, List.setIfInBounds_toArray, List.set_cons_zero, List.set_cons_succ]
    refine wpAnyH_take (i := 1) (v := ?_) rfl (by kernel_rfl) (by kernel_rfl) (by kernel_rfl) (fun _ _ _ h => h) (Or.inl ⟨by rfl, ?_⟩) (by assumption) ?_
    rotate_left
    · (intro w' hSw; (try dsimp only at hSw); go_simp; try with_reducible rfl)
    try simp only [Act.put, List.getElem_toArray, List.getElem_cons_zero, List.getElem_cons_succ, List.setIfInBounds_toArray, List.set_cons_zero, List.set_cons_succ]
    refine wpAnyH_take (i := 2) (v := ?_) rfl (by kernel_rfl) (by kernel_rfl) (by kernel_rfl) (fun _ _ _ h => h) (Or.inl ⟨by rfl, ?_⟩) (by assumption) ?_
    rotate_left
    · (intro w' hSw; (try dsimp only at hSw); go_simp; try with_reducible rfl)
    try simp only [Act.put, List.getElem_toArray, List.getElem_cons_zero, List.getElem_cons_succ, List.setIfInBounds_toArray, List.set_cons_zero, List.set_cons_succ]
    refine wpAnyH_take (i := 3) (v := ?_) rfl (by kernel_rfl) (by kernel_rfl) (by kernel_rfl) (fun _ _ _ h => h) (Or.inl ⟨by rfl, ?_⟩) (by assumption) ?_
    rotate_left
    · (intro w' hSw; (try dsimp only at hSw); go_simp; try with_reducible rfl)
    try simp only [Act.put, List.getElem_toArray, List.getElem_cons_zero, List.getElem_cons_succ, List.setIfInBounds_toArray, List.set_cons_zero, List.set_cons_succ]
    refine wpAnyH_take (i := 4) (v := ?_) rfl (by kernel_rfl) (by kernel_rfl) (by kernel_rfl) (fun _ _ _ h => h) (Or.inl ⟨by rfl, ?_⟩) (by assumption) ?_
    rotate_left
    · (intro w' hSw; (try dsimp only at hSw); go_simp; try with_reducible rfl)
    try simp only [Act.put, List.getElem_toArray, List.getElem_cons_zero, List.getElem_cons_succ, List.setIfInBounds_toArray, List.set_cons_zero, List.set_cons_succ]
    refine wpAnyH_take (i := 5) (v := ?_) rfl (by kernel_rfl) (by kernel_rfl) (by kernel_rfl) (fun _ _ _ h => h) (Or.inl ⟨by rfl, ?_⟩) (by assumption) ?_
    rotate_left
    · (intro w' hSw; (try dsimp only at hSw); go_simp; try with_reducible rfl)
    try simp only [Act.put, List.getElem_toArray, List.getElem_cons_zero, List.getElem_cons_succ, List.setIfInBounds_toArray, List.set_cons_zero, List.set_cons_succ]
    refine wpAnyH_take (i := 6) (v := ?_) rfl (by kernel_rfl) (by kernel_rfl) (by kernel_rfl) (fun _ _ _ h => h) (Or.inl ⟨by rfl, ?_⟩) (by assumption) ?_
    rotate_left
    · (intro w' hSw; (try dsimp only at hSw); go_simp; try with_reducible rfl)
    try simp only [Act.put, List.getElem_toArray, List.getElem_cons_zero, List.getElem_cons_succ, List.setIfInBounds_toArray, List.set_cons_zero, List.set_cons_succ]
    try simp only [hq1, hq2]
    refine wpAnyH_take (i := 7) (v := ?_) rfl (by kernel_rfl) (by kernel_rfl) (by kernel_rfl) (fun _ _ _ h => h) (Or.inl ⟨by rfl, ?_⟩) (by assumption) ?_
    rotate_left
    · (intro w' hSw; (try dsimp only at hSw); go_simp; try with_reducible rfl)
    try simp only [Act.put, List.getElem_toArray, List.getElem_cons_zero, List.getElem_cons_succ, List.setIfInBounds_toArray, List.set_cons_zero, List.set_cons_succ]
    refine wpAnyH_take (i := 8) (v := undef) rfl (by kernel_rfl) (by kernel_rfl) (by kernel_rfl) (fun _ _ _ h => h) (Or.inr ⟨by kernel_rfl, rfl⟩) (by assumption) ?_
    try simp only [Act.put, List.getElem_toArray, List.getElem_cons_zero, List.getElem_cons_succ, List.setIfInBounds_toArray, List.set_cons_zero, List.set_cons_succ]
    refine wpAnyH_take (i := 9) (v := undef) rfl (by kernel_rfl) (by kernel_rfl) (by kernel_rfl) (fun _ _ _ h => h) (Or.inr ⟨by kernel_rfl, rfl⟩) (by assumption) ?_
    try simp only [Act.put, List.getElem_toArray, List.getElem_cons_zero, List.getElem_cons_succ, List.setIfInBounds_toArray, List.set_cons_zero, List.set_cons_succ]
    refine wpAnyH_take (i := 10) (v := undef) rfl (by kernel_rfl) (by kernel_rfl) (by kernel_rfl) (fun _ _ _ h => h) (Or.inr ⟨by kernel_rfl, rfl⟩) (by assumption) ?_
    try simp only [Act.put, List.getElem_toArray, List.getElem_cons_zero, List.getElem_cons_succ, List.setIfInBounds_toArray, List.set_cons_zero, List.set_cons_succ]
    refine wpAnyH_take (i := 11) (v := undef) rfl (by kernel_rfl) (by kernel_rfl) (by kernel_rfl) (fun _ _ _ h => h) (Or.inr ⟨by kernel_rfl, rfl⟩) (by assumption) ?_
    try simp only [Act.put, List.getElem_toArray, List.getElem_cons_zero, List.getElem_cons_succ, List.setIfInBounds_toArray, List.set_cons_zero, List.set_cons_succ]
    refine wpAnyH_take (i := 12) (v := undef) rfl (by kernel_rfl) (by kernel_rfl) (by kernel_rfl) (fun _ _ _ h => h) (Or.inr ⟨by kernel_rfl, rfl⟩) (by assumption) ?_
    try simp only [Act.put, List.getElem_toArray, List.getElem_cons_zero, List.getElem_cons_succ, List.setIfInBounds_toArray, List.set_cons_zero, List.set_cons_succ]
    refine wpAnyH_take (i := 13) (v := undef) rfl (by kernel_rfl) (by kernel_rfl) (by kernel_rfl) (fun _ _ _ h => h) (Or.inr ⟨by kernel_rfl, rfl⟩) (by assumption) ?_
    try simp only [Act.put, List.getElem_toArray, List.getElem_cons_zero, List.getElem_cons_succ, List.setIfInBounds_toArray, List.set_cons_zero, List.set_cons_succ]
    refine wpAnyH_take (i := 14) (v := undef) rfl (by kernel_rfl) (by kernel_rfl) (by kernel_rfl) (fun _ _ _ h => h) (Or.inr ⟨by kernel_rfl, rfl⟩) (by assumption) ?_
    try simp only [Act.put, List.getElem_toArray, List.getElem_cons_zero, List.getElem_cons_succ, List.setIfInBounds_toArray, List.set_cons_zero, List.set_cons_succ]
    refine wpAnyH_take (i := 15) (v := ?_) rfl (by kernel_rfl) (by kernel_rfl) (by kernel_rfl) (fun _ _ _ h => h) (Or.inl ⟨by rfl, ?_⟩) (by assumption) ?_
    rotate_left
    · (intro w' hSw; (try dsimp only at hSw); go_simp; try with_reducible rfl)
    try simp only [Act.put, List.getElem_toArray, List.getElem_cons_zero, List.getElem_cons_succ, List.setIfInBounds_toArray, List.set_cons_zero, List.set_cons_succ]
    have HFIN : Hid (Below W.heap.size W V) := HBD.out
    refine wpAnyH_ready (rs := [16]) (by kernel_rfl) (by simp) ?_
    refine AllReadyH.cons rfl (fun K hK => ?_) AllReadyH.nil
    try simp only [Act.put, List.getElem_toArray, List.getElem_cons_zero, List.getElem_cons_succ, List.setIfInBounds_toArray, List.set_cons_zero, List.set_cons_succ]
    go_simp
    refine hK.out _ _ hS (fun hHeld2 => ?_)
    try simp only [Act.put, List.getElem_toArray, List.getElem_cons_zero, List.getElem_cons_succ, List.setIfInBounds_toArray, List.set_cons_zero, List.set_cons_succ]
    refine wpAnyH_done (by kernel_rfl) ?_ _
    refine NoPanic.normal ?_
    clear hK K hHeld hHeld2
    go_wp2
    go_ret
    exact ⟨rfl, HFIN.out⟩
  · have HEX : Hid (∃ z ∈ decI f n, z.2.1 = p) := by
      rcases he with h | h
      · exact absurd h hpn
      · exact h
    have hq1 : (p == (n : Int)) = false := by rw [beq_eq_false_iff_ne]; exact hpn
    have hq2 : decide (p = (n : Int)) = false := by rw [decide_eq_false_iff_not]; exact hpn
    clear he
    go_enter Tryz.func21, Tryz.ntmps21
    go_wp2
    try rw [hW0]
    refine wp_region_noPanic ?_
    refine wp_region_held_drew (S := fun w' => w'.cell? ⟨W.heap.size, 0, none⟩ = some (.int .i64 p) ∧ w'.cell? ⟨yb, 0, none⟩ = some (.pointer (some ⟨y, 0, none⟩)) ∧ w'.cell? ⟨y, 0, none⟩ = some (.slice ba n bc)) (by kernel_rfl) ⟨c0, c1, c2⟩ (fun hHeld => ?_)
    have HC0 : Hid (W0.drew.cell? ⟨W.heap.size, 0, none⟩ = some (.int .i64 p)) := c0
    have HC1 : Hid (W0.drew.cell? ⟨yb, 0, none⟩ = some (.pointer (some ⟨y, 0, none⟩))) := c1
    have HC2 : Hid (W0.drew.cell? ⟨y, 0, none⟩ = some (.slice ba n bc)) := c2
    have hS : W0.drew.cell? ⟨W.heap.size, 0, none⟩ = some (.int .i64 p) ∧ W0.drew.cell? ⟨yb, 0, none⟩ = some (.pointer (some ⟨y, 0, none⟩)) ∧ W0.drew.cell? ⟨y, 0, none⟩ = some (.slice ba n bc) := ⟨c0, c1, c2⟩
    have HBD : Hid (Below W.heap.size W W0.drew) := HBW.out.drew
    have HIBD : Hid (IsB W0.drew ba n f) := HIB.out.below ⟨rfl, rfl, rfl, Nat.le_refl _, fun _ _ => rfl⟩
    clear hW0 c0 c1 c2 HBW HIB
    generalize W0.drew = V at *
    refine wpAnyH_take (i := 0) (v := ?_) rfl (by kernel_rfl) (by kernel_rfl) (by kernel_rfl) (fun _ _ _ h => h) (Or.inl ⟨by rfl, ?_⟩) (by assumption) ?_
    rotate_left
    · (intro w' hSw; (try dsimp only at hSw); go_simp; try with_reducible rfl)
    try simp only [Act.put, List.getElem_toArray, List.getElem_cons_zero, List.getElem_cons_succ, List.setIfInBounds_toArray, List.set_cons_zero, List.set_cons_succ]
    refine wpAnyH_take (i := 1) (v := ?_) rfl (by kernel_rfl) (by kernel_rfl) (by kernel_rfl) (fun _ _ _ h => h) (Or.inl ⟨by rfl, ?_⟩) (by assumption) ?_
    rotate_left
    · (intro w' hSw; (try dsimp only at hSw); go_simp; try with_reducible rfl)
    try simp only [Act.put, List.getElem_toArray, List.getElem_cons_zero, List.getElem_cons_succ, List.setIfInBounds_toArray, List.set_cons_zero, List.set_cons_succ]
    refine wpAnyH_take (i := 2) (v := ?_) rfl (by kernel_rfl) (by kernel_rfl) (by kernel_rfl) (fun _ _ _ h => h) (Or.inl ⟨by rfl, ?_⟩) (by assumption) ?_
    rotate_left
    · (intro w' hSw; (try dsimp only at hSw); go_simp; try with_reducible rfl)
    try simp only [Act.put, List.getElem_toArray, List.getElem_cons_zero, List.getElem_cons_succ, List.setIfInBounds_toArray, List.set_cons_zero, List.set_cons_succ]
    refine wpAnyH_take (i := 3) (v := ?_) rfl (by kernel_rfl) (by kernel_rfl) (by kernel_rfl) (fun _ _ _ h => h) (Or.inl ⟨by rfl, ?_⟩) (by assumption) ?_
    rotate_left
    · (intro w' hSw; (try dsimp only at hSw); go_simp; try with_reducible rfl)
    try simp only [Act.put, List.getElem_toArray, List.getElem_cons_zero, List.getElem_cons_succ, List.setIfInBounds_toArray, List.set_cons_zero, List.set_cons_succ]
    refine wpAnyH_take (i := 4) (v := ?_) rfl (by kernel_rfl) (by kernel_rfl) (by kernel_rfl) (fun _ _ _ h => h) (Or.inl ⟨by rfl, ?_⟩) (by assumption) ?_
    rotate_left
    · (intro w' hSw; (try dsimp only at hSw); go_simp; try with_reducible rfl)
    try simp only [Act.put, List.getElem_toArray, List.getElem_cons_zero, List.getElem_cons_succ, List.setIfInBounds_toArray, List.set_cons_zero, List.set_cons_succ]
    refine wpAnyH_take (i := 5) (v := ?_) rfl (by kernel_rfl) (by kernel_rfl) (by kernel_rfl) (fun _ _ _ h => h) (Or.inl ⟨by rfl, ?_⟩) (by assumption) ?_
    rotate_left
    · (intro w' hSw; (try dsimp only at hSw); go_simp; try with_reducible rfl)
    try simp only [Act.put, List.getElem_toArray, List.getElem_cons_zero, List.getElem_cons_succ, List.setIfInBounds_toArray, List.set_cons_zero, List.set_cons_succ]
    refine wpAnyH_take (i := 6) (v := ?_) rfl (by kernel_rfl) (by kernel_rfl) (by kernel_rfl) (fun _ _ _ h => h) (Or.inl ⟨by rfl, ?_⟩) (by assumption) ?_
    rotate_left
    · (intro w' hSw; (try dsimp only at hSw); go_simp; try with_reducible rfl)
    try simp only [Act.put, List.getElem_toArray, List.getElem_cons_zero, List.getElem_cons_succ, List.setIfInBounds_toArray, List.set_cons_zero, List.set_cons_succ]
    try simp only [hq1, hq2]
    refine wpAnyH_take (i := 7) (v := ?_) rfl (by kernel_rfl) (by kernel_rfl) (by kernel_rfl) (fun _ _ _ h => h) (Or.inl ⟨by rfl, ?_⟩) (by assumption) ?_
    rotate_left
    · (intro w' hSw; (try dsimp only at hSw); go_simp; try with_reducible rfl)
    try simp only [Act.put, List.getElem_toArray, List.getElem_cons_zero, List.getElem_cons_succ, List.setIfInBounds_toArray, List.set_cons_zero, List.set_cons_succ]
    refine wpAnyH_take (i := 8) (v := ?_) rfl (by kernel_rfl) (by kernel_rfl) (by kernel_rfl) (fun _ _ _ h => h) (Or.inl ⟨by rfl, ?_⟩) (by assumption) ?_
    rotate_left
    · (intro w' hSw; (try dsimp only at hSw); go_simp; try with_reducible rfl)
    try simp only [Act.put, List.getElem_toArray, List.getElem_cons_zero, List.getElem_cons_succ, List.setIfInBounds_toArray, List.set_cons_zero, List.set_cons_succ]
    refine wpAnyH_take (i := 9) (v := ?_) rfl (by kernel_rfl) (by kernel_rfl) (by kernel_rfl) (fun _ _ _ h => h) (Or.inl ⟨by rfl, ?_⟩) (by assumption) ?_
    rotate_left
    · (intro w' hSw; (try dsimp only at hSw); go_simp; try with_reducible rfl)
    try simp only [Act.put, List.getElem_toArray, List.getElem_cons_zero, List.getElem_cons_succ, List.setIfInBounds_toArray, List.set_cons_zero, List.set_cons_succ]
    refine wpAnyH_take (i := 10) (v := ?_) rfl (by kernel_rfl) (by kernel_rfl) (by kernel_rfl) (fun _ _ _ h => h) (Or.inl ⟨by rfl, ?_⟩) (by assumption) ?_
    rotate_left
    · (intro w' hSw; (try dsimp only at hSw); go_simp; try with_reducible rfl)
    try simp only [Act.put, List.getElem_toArray, List.getElem_cons_zero, List.getElem_cons_succ, List.setIfInBounds_toArray, List.set_cons_zero, List.set_cons_succ]
    refine wpAnyH_take (i := 11) (v := ?_) rfl (by kernel_rfl) (by kernel_rfl) (by kernel_rfl) (fun _ _ _ h => h) (Or.inl ⟨by rfl, ?_⟩) (by assumption) ?_
    rotate_left
    · (intro w' hSw; (try dsimp only at hSw); go_simp; try with_reducible rfl)
    try simp only [Act.put, List.getElem_toArray, List.getElem_cons_zero, List.getElem_cons_succ, List.setIfInBounds_toArray, List.set_cons_zero, List.set_cons_succ]
    refine wpAnyH_take (i := 13) (v := ?_) rfl (by kernel_rfl) (by kernel_rfl) (by kernel_rfl) (fun _ _ _ h => h) (Or.inl ⟨by rfl, ?_⟩) (by assumption) ?_
    rotate_left
    · (intro w' hSw; (try dsimp only at hSw); go_simp; try with_reducible rfl)
    try simp only [Act.put, List.getElem_toArray, List.getElem_cons_zero, List.getElem_cons_succ, List.setIfInBounds_toArray, List.set_cons_zero, List.set_cons_succ]
    have C := utf.rdecode_any ba n bc f V HIBD.out (by omega) HN.out.1 HN.out.2 HF.out
    refine wpAnyH_ready (rs := [12]) (by kernel_rfl) (by simp) ?_
    refine AllReadyH.cons rfl (fun K hK => ?_) AllReadyH.nil
    try simp only [Act.put, List.getElem_toArray, List.getElem_cons_zero, List.getElem_cons_succ, List.setIfInBounds_toArray, List.set_cons_zero, List.set_cons_succ]
    go_simp
    refine C.mono ?_
    rintro e w2 ⟨v2, rfl, o2, b2⟩
    clear C
    have HB2 : Hid (Below V.heap.size V w2) := b2
    have HO2 : Hid (IVI w2 v2 (decI f n)) := (own3_dec o2).iv
    clear b2 o2
    refine hK.out _ _ ⟨cell_below HB2.out HC0.out, cell_below HB2.out HC1.out, cell_below HB2.out HC2.out⟩ (fun hHeld2 => ?_)
    clear hK K hHeld
    have hHeld := hHeld2
    clear hHeld2
    try simp only [Act.put, List.getElem_toArray, List.getElem_cons_zero, List.getElem_cons_succ, List.setIfInBounds_toArray, List.set_cons_zero, List.set_cons_succ]
    have C := econtains_any v2 (decI f n) p W.heap.size w2 HO2.out (cell_below HB2.out HC0.out) (by have := dec_len f n; omega) HEX.out
    refine wpAnyH_ready (rs := [14]) (by kernel_rfl) (by simp) ?_
    refine AllReadyH.cons rfl (fun K hK => ?_) AllReadyH.nil
    try simp only [Act.put, List.getElem_toArray, List.getElem_cons_zero, List.getElem_cons_succ, List.setIfInBounds_toArray, List.set_cons_zero, List.set_cons_succ]
    go_simp
    refine C.mono ?_
    rintro e w3 ⟨rfl, b3⟩
    clear C
    have HB3 : Hid (Below V.heap.size V w3) := HB2.out.trans (b3.mono HB2.out.size)
    clear b3
    refine hK.out _ _ ⟨cell_below HB3.out HC0.out, cell_below HB3.out HC1.out, cell_below HB3.out HC2.out⟩ (fun hHeld2 => ?_)
    clear hK K hHeld
    have hHeld := hHeld2
    clear hHeld2
    try simp only [Act.put, List.getElem_toArray, List.getElem_cons_zero, List.getElem_cons_succ, List.setIfInBounds_toArray, List.set_cons_zero, List.set_cons_succ]
    refine wpAnyH_take (i := 15) (v := ?_) rfl (by kernel_rfl) (by kernel_rfl) (by kernel_rfl) (fun _ _ _ h => h) (Or.inl ⟨by rfl, ?_⟩) (by assumption) ?_
    rotate_left
    · (intro w' hSw; (try dsimp only at hSw); go_simp; try with_reducible rfl)
    try simp only [Act.put, List.getElem_toArray, List.getElem_cons_zero, List.getElem_cons_succ, List.setIfInBounds_toArray, List.set_cons_zero, List.set_cons_succ]
    have HFIN : Hid (Below W.heap.size W w3) := HBD.out.trans (HB3.out.mono HBD.out.size)
    refine wpAnyH_ready (rs := [16]) (by kernel_rfl) (by simp) ?_
    refine AllReadyH.cons rfl (fun K hK => ?_) AllReadyH.nil
    try simp only [Act.put, List.getElem_toArray, List.getElem_cons_zero, List.getElem_cons_succ, List.setIfInBounds_toArray, List.set_cons_zero, List.set_cons_succ]
    go_simp
    refine hK.out _ _ ⟨cell_below HB3.out HC0.out, cell_below HB3.out HC1.out, cell_below HB3.out HC2.out⟩ (fun hHeld2 => ?_)
    try simp only [Act.put, List.getElem_toArray, List.getElem_cons_zero, List.getElem_cons_succ, List.setIfInBounds_toArray, List.set_cons_zero, List.set_cons_succ]
    refine wpAnyH_done (by kernel_rfl) ?_ _
    refine NoPanic.normal ?_
    clear hK K hHeld hHeld2
    go_wp2
    go_ret
    exact ⟨rfl, HFIN.out⟩
end Go.Proofs.YtlidgjkipbijlaaGreatDoor.itm
end

section
/- ItemsEdges: the walk. -/
set_option linter.unusedVariables false
set_option linter.unusedSimpArgs false
namespace Go.Proofs.YtlidgjkipbijlaaGreatDoor.itm
open Go.RowKit Go.Shelf nrm prp
open Go.Proofs.YtlidgjkipbijlaaGreatDoor.utf (IsB lst)

theorem rem_in (a : Int) (M : Nat) : ∃ A : Nat, (IntKind.u64.wrap a).tmod ((M : Int) + 1) = (A : Int) ∧ A ≤ M := by
  have h0 : 0 ≤ IntKind.u64.wrap a := by simp only [IntKind.wrap, IntKind.signed, IntKind.bits]; first | omega | (simp; omega)
  have h1 := Int.tmod_nonneg ((M : Int) + 1) h0
  have h2 := Int.tmod_lt_of_pos (IntKind.u64.wrap a) (show (0 : Int) < (M : Int) + 1 by omega)
  exact ⟨((IntKind.u64.wrap a).tmod ((M : Int) + 1)).toNat, by omega, by omega⟩
set_option maxHeartbeats 2000000 in
set_option maxRecDepth 1000000 in
theorem edges_walk (v : Value) (N : Nat) (f : Nat → Int) (c : Bool) (a b : Int) (w : World) (h : ArgB w v N f) (E : Env w) :
    Calls Tryz.prog 6 #[v, .bool c, .int .i64 a, .int .i64 b] w fun e w' => e = .returned (.bool true) ∧ Below w.heap.size w w' := by
  obtain ⟨n, hn⟩ : ∃ n, min N 300 = n := ⟨_, rfl⟩
  have hn3 : n ≤ 300 := by omega
  have C := both_any v N n f c w h hn E
  have HF : Hid (Fine n (itemsL c f n)) := items_fine c f n h.fine
  have HL : Hid ((itemsL c f n).length ≤ 2700) := len300 c f n hn3
  have HFB : Hid (∀ i, 0 ≤ f i ∧ f i ≤ 255) := h.fine
  clear h E hn
  go_enter Tryz.func6, Tryz.ntmps6
  go_wp2_with fail
  refine C.mono ?_
  rintro e w1 ⟨x, y, rfl, hx, hy, b1⟩
  clear C
  obtain ⟨bv, iv, h1, h2, h3⟩ := hy.all
  obtain ⟨ia, ic, rfl⟩ := lin.own_slice h3
  have BA : Below w1.heap.size w1 (w1.alloc (.cells #[.pointer (some ⟨y, 0, none⟩)] 24)) := (Below.refl _ w1).alloc (Nat.le_refl _) _
  have c1 := cell_of_row w1 y 1 _ _ _ h1
  simp at c1
  have c1 := cell_below BA c1
  have c0 : (w1.alloc (.cells #[.pointer (some ⟨y, 0, none⟩)] 24)).cell? ⟨w1.heap.size, 0, none⟩ = some (.pointer (some ⟨y, 0, none⟩)) := cell_of_row _ _ 0 _ _ _ (World.alloc_heap_new _ _)
  have HB2 : Hid (Below w.heap.size w (w1.alloc (.cells #[.pointer (some ⟨y, 0, none⟩)] 24))) := b1.trans (BA.mono b1.size)
  have HX : Hid (TxtIs (w1.alloc (.cells #[.pointer (some ⟨y, 0, none⟩)] 24)) w.heap.size x n f (itemsL c f n)) := hx.below BA
  have HY : Hid (RTxt (w1.alloc (.cells #[.pointer (some ⟨y, 0, none⟩)] 24)) w.heap.size y n f (itemsL c f n)) := hy.below BA
  clear hx hy b1 h1 h2 h3 BA
  have hl := HL.out
  generalize hW2 : w1.alloc (.cells #[.pointer (some ⟨y, 0, none⟩)] 24) = w2 at *
  obtain ⟨M, hM⟩ : ∃ M, (itemsL c f n).length = M := ⟨_, rfl⟩
  have HLM : Hid ((itemsL c f n).length = M) := hM
  rw [hM] at c1 hl
  clear hM
  obtain ⟨A, hA, hAM⟩ := rem_in a M
  obtain ⟨D, hD⟩ : ∃ D, M - A = D := ⟨_, rfl⟩
  obtain ⟨B, hB, hBD⟩ := rem_in b D
  have hD1 : (M : Int) - (A : Int) = (D : Int) := by omega
  have hDl : D ≤ 2700 := by omega
  have HAB : Hid (A ≤ M ∧ M - A = D ∧ B ≤ D) := ⟨hAM, hD, hBD⟩
  clear hD
  obtain ⟨p, q, hpq, hle, ep, eq, hiff⟩ := span_edges f n c A (A + B) HF.out (by omega) (by rw [HLM.out]; have := HAB.out; omega)
  have C := span_t x w.heap.size n f (itemsL c f n) (A : Int) ((A : Int) + (B : Int)) w2 HX.out (by rw [HLM.out]; omega) HF.out
  rw [show (A : Int) + (B : Int) = ((A + B : Nat) : Int) by omega, hpq] at C
  rw [show ((A + B : Nat) : Int) = (A : Int) + (B : Int) by omega] at C
  have HEP : Hid (Edge f n p) := ep
  have HEQ : Hid (Edge f n q) := eq
  have HIF : Hid (A < A + B ↔ p < q) := hiff
  clear hpq ep eq hiff HX HF
  unfold spV at C
  simp only at C
  go_wp2_with fail
  refine C.mono ?_
  rintro e w3 ⟨rfl, b3⟩
  clear C
  have HB3 : Hid (Below w2.heap.size w2 (w3.alloc (.cells #[.int .i64 p, .int .i64 q] 41))) := b3.alloc b3.size _
  have nS := World.alloc_heap_new w3 (.cells #[.int .i64 p, .int .i64 q] 41)
  have HC0 : Hid (w2.cell? ⟨w1.heap.size, 0, none⟩ = some (.pointer (some ⟨y, 0, none⟩))) := c0
  clear b3 c0 c1 hW2
  generalize hW4 : w3.alloc (.cells #[.int .i64 p, .int .i64 q] 41) = w4 at *
  have g0 := cell_of_row w4 w3.heap.size 0 _ _ _ nS
  have g1 := cell_of_row w4 w3.heap.size 1 _ _ _ nS
  simp at g0 g1
  have HNS : Hid (w4.heap[w3.heap.size]? = some (.cells #[.int .i64 p, .int .i64 q] 41 (0, 0))) := nS
  clear nS
  generalize w1.heap.size = yb at *
  have C := edge_any p yb y w.heap.size n f (itemsL c f n) w4 (HY.out.below HB3.out) (cell_below HB3.out HC0.out) (by omega) HFB.out HEP.out
  go_wp2_with fail
  refine C.mono ?_
  rintro e w5 ⟨rfl, b5⟩
  clear C
  have HB5 : Hid (Below w2.heap.size w2 w5) := HB3.out.trans (b5.mono HB3.out.size)
  have nS := (b5.block _ (Array.getElem?_eq_some_iff.1 HNS.out).1).trans HNS.out
  clear b5 g0 g1 HNS HB3 hW4
  have HNS : Hid (w5.heap[w3.heap.size]? = some (.cells #[.int .i64 p, .int .i64 q] 41 (0, 0))) := nS
  have g0 := cell_of_row w5 w3.heap.size 0 _ _ _ nS
  have g1 := cell_of_row w5 w3.heap.size 1 _ _ _ nS
  simp at g0 g1
  clear nS
  have C := edge_any q yb y w.heap.size n f (itemsL c f n) w5 (HY.out.below HB5.out) (cell_below HB5.out HC0.out) (by omega) HFB.out HEQ.out
  go_wp2_with fail
  refine C.mono ?_
  rintro e w6 ⟨rfl, b6⟩
  clear C
  have HB6 : Hid (Below w2.heap.size w2 w6) := HB5.out.trans (b6.mono HB5.out.size)
  have nS := (b6.block _ (Array.getElem?_eq_some_iff.1 HNS.out).1).trans HNS.out
  clear b6 g0 g1 HNS HB5
  have g0 := cell_of_row w6 w3.heap.size 0 _ _ _ nS
  have g1 := cell_of_row w6 w3.heap.size 1 _ _ _ nS
  simp at g0 g1
  have HFIN : Hid (Below w.heap.size w w6) := HB2.out.trans (HB6.out.mono HB2.out.size)
  clear nS HB6 HB2 HY HC0
  by_cases hB0 : B = 0
  · have t2 : ¬ p < q := fun h => by have := HIF.out.2 h; omega
    subst hB0
    go_wp2
    go_ret
    exact ⟨by simp [t2], HFIN.out⟩
  · have t1 : (A : Int) < (A : Int) + (B : Int) := by omega
    have t2 : p < q := HIF.out.1 (by omega)
    go_wp2
    go_ret
    exact ⟨by simp [t1, t2] <;> omega, HFIN.out⟩
end Go.Proofs.YtlidgjkipbijlaaGreatDoor.itm
end
