/- Texts that the proof leans on, one behind the other. -/
import Derived.Test.YtbdojobplhpnbaaGreatDoorBdClu1
import Derived.OrdersHeld
import Derived.Deep.RegionHeld3

section
/- cluster.parted, cluster.Edge, cluster.Next. -/
set_option linter.unusedVariables false
set_option linter.unusedSimpArgs false
namespace Go.Proofs.YtbdojobplhpnbaaGreatDoor.clu
open Go.RowKit Go.Maps
open Go.Proofs.YtbdojobplhpnbaaGreatDoor.lin Go.Proofs.YtbdojobplhpnbaaGreatDoor.prp

theorem rule_cr {a b : Int} {p : Bool} {f : Nat} (h1 : a = 1) (h2 : b = 2) : ruleB a b p f = false := by unfold ruleB; rw [if_pos ⟨h1, h2⟩]
theorem rule_alone {a b : Int} {p : Bool} {f : Nat} (h1 : ¬ (a = 1 ∧ b = 2)) (h2 : (alone a || alone b) = true) : ruleB a b p f = true := by unfold ruleB; rw [if_neg h1, if_pos h2]
theorem not_one {a : Int} (h : alone a = false) : a ≠ 1 := fun e => by rw [e] at h; cases h
theorem rule_with {a b : Int} {p : Bool} {f : Nat} (h1 : alone a = false) (h2 : alone b = false) (h3 : (inSyl a b || trails b || a == 12) = true) : ruleB a b p f = false := by
  unfold ruleB; rw [if_neg (fun h => not_one h1 h.1), h1, h2, if_neg (by decide), if_pos h3]
theorem rule_rest {a b : Int} {p : Bool} {f : Nat} (h1 : alone a = false) (h2 : alone b = false) (h3 : inSyl a b = false) (h4 : trails b = false) (h5 : a ≠ 12) : ruleB a b p f = if a = 10 ∧ b = 13 then !p else if a = 14 ∧ b = 14 then f % 2 == 0 else true := by
  unfold ruleB; rw [if_neg (fun h => not_one h1 h.1), h1, h2, if_neg (by decide), h3, h4, beq_eq_false_iff_ne.2 h5, if_neg (by decide)]
/-- A text in memory. -/
structure Txt (w : World) (ao : Option Addr) (n cap : Nat) (l : List Int) : Prop where
  iv : IV w (.slice ao n cap) l
  fits : n ≤ cap
  top : cap ≤ 9223372036854775807
  ok : ∀ r ∈ l, okI r
  len : n ≤ 1000000
theorem Txt.below {w w' : World} {ao : Option Addr} {n cap : Nat} {l : List Int} (h : Txt w ao n cap l) (hb : Below w.heap.size w w') : Txt w' ao n cap l := ⟨h.iv.below hb, h.fits, h.top, h.ok, h.len⟩
theorem Txt.length {w : World} {ao : Option Addr} {n cap : Nat} {l : List Int} (h : Txt w ao n cap l) : l.length = n := (iv_cells h.iv).1
theorem parted_at {l : List Int} {m n : Nat} {x y : Int} (hn : n = m + 1) (hx : l[m]? = some x) (hy : l[n]? = some y) : parted l n = ruleB (kd x) (kd y) (endsPic (back l m)) (flagsN (back l n)) := by
  subst hn
  unfold parted
  rw [Nat.add_sub_cancel, List.getD_eq_getElem?_getD, List.getD_eq_getElem?_getD, hx, hy]
  rfl
/-- A region, by what holds behind it. -/
theorem region_post {P : Program} {id : Nat} {ops : Array Oper} {bb : Bool} {Q : Exit → Act → World → Prop} {a : Act} {w : World} (puts : Nat → Act → Act) (G : Nat → World → Prop)
    (h1 : (Code.region id ops bb).wp P (fun e a' W => e = .normal ∧ ∃ pb, a' = puts pb a ∧ G pb W) a w) (h2 : ∀ pb W, G pb W → Q .normal (puts pb a) W) : (Code.region id ops bb).wp P Q a w :=
  Code.wp_mono (fun e a' W h => by obtain ⟨rfl, pb, rfl, hG⟩ := h; exact h2 pb W hG) h1
theorem row2_set {w : World} {g : Nat} {t : TypeId} {a b : Value} (h : w.heap[g]? = some (.cells #[a, b] t)) (x y : Value) :
    ((w.setCell ⟨g, 0, none⟩ x).setCell ⟨g, 1, none⟩ y).heap[g]? = some (.cells #[x, y] t) := by
  have h1 := heap_setCell_same w g 0 _ t x h
  have h2 := heap_setCell_same _ g 1 _ t y h1
  simpa using h2
theorem cell_pair {w W : World} {g b o : Nat} {u x y : Value} (hb : Below w.heap.size w W) (hg : w.heap.size ≤ g) (h : w.cell? ⟨b, o, none⟩ = some u) : ((W.setCell ⟨g, 0, none⟩ x).setCell ⟨g, 1, none⟩ y).cell? ⟨b, o, none⟩ = some u :=
  cell_below ((hb.setCell hg _).setCell hg _) h
set_option maxHeartbeats 8000000 in
set_option maxRecDepth 1000000 in
theorem parted_t (t : Nat) (ao : Option Addr) (N cap m n : Nat) (l : List Int) (w : World) (h : Tabs w t) (hS : Syl w) (hv : Txt w ao N cap l) (hn : n = m + 1) (hN : n < N) :
    Calls Tryz.prog 38 #[.pointer (some ⟨t, 0, none⟩), .slice ao N cap, .int .i64 (n : Int)] w fun e w' => e = .returned (.bool (parted l n)) ∧ Below w.heap.size w w' := by
  obtain ⟨hl, hat⟩ := iv_cells hv.iv
  obtain ⟨x, b, o, rfl, cx, hx⟩ := hat m (by omega)
  obtain ⟨y, b', o', e', cy, hy⟩ := hat n hN
  injection e' with e'
  injection e' with e1 e2
  subst e1 e2
  obtain ⟨R, hR⟩ : ∃ R, parted l n = R := ⟨_, rfl⟩
  obtain ⟨P, hP⟩ : ∃ P, endsPic (back l m) = P := ⟨_, rfl⟩
  obtain ⟨F, hF⟩ : ∃ F, flagsN (back l n) = F := ⟨_, rfl⟩
  have HR : Hid (R = ruleB (kd x) (kd y) P F) := by unfold Hid; rw [← hR, ← hP, ← hF]; exact parted_at hn hx hy
  have HT : Hid (Tabs w t) := h
  have HSY : Hid (Syl w) := hS
  have HV : Hid (Txt w (some ⟨b, o, none⟩) N cap l) := hv
  have HKI : Hid (∀ r W, Below w.heap.size w W → Calls Tryz.prog 56 #[.pointer (some ⟨t, 0, none⟩), .int .i64 r] W fun e w' => e = .returned (.int .i64 (kd r)) ∧ Below W.heap.size W w') := fun r W hb => kind_t t r W (h.below hb)
  have HPI : Hid (∀ W, Below w.heap.size w W → Calls Tryz.prog 60 #[.pointer (some ⟨t, 0, none⟩), .slice (some ⟨b, o, none⟩) m cap] W fun e w' => e = .returned (.bool P) ∧ Below W.heap.size W w') := fun W hb => by
    have q := ends_t t (some ⟨b, o, none⟩) m cap (l.take m) W (h.below hb) (iv_take (hv.iv.below hb) m (by omega)) (by have := hv.len; omega)
    rw [back_take (Nat.le_refl _), hP] at q
    exact q
  have HFI : Hid (∀ W, Below w.heap.size w W → Calls Tryz.prog 61 #[.pointer (some ⟨t, 0, none⟩), .slice (some ⟨b, o, none⟩) n cap] W fun e w' => e = .returned (.int .i64 (F : Int)) ∧ Below W.heap.size W w') := fun W hb => by
    have q := flags_t t (some ⟨b, o, none⟩) n cap (l.take n) W (h.below hb) (iv_take (hv.iv.below hb) n (by omega)) (by have := hv.len; omega)
    rw [back_take (Nat.le_refl _), hF] at q
    exact q
  have hlen := hv.len
  have hcap := hv.fits
  have w1 : IntKind.i64.wrap ((n : Int) - 1) = (m : Int) := by rw [IntKind.wrap_i64]; omega
  have b1 : (0 : Int) ≤ (m : Int) := by omega
  have b2 : (m : Int) < (N : Int) := by omega
  have b3 : (0 : Int) ≤ (n : Int) := by omega
  have b4 : (n : Int) < (N : Int) := by omega
  have b5 : (m : Int) ≤ (cap : Int) := by omega
  have b6 : (n : Int) ≤ (cap : Int) := by omega
  have hbx : b < w.heap.size := World.block_lt_of_cell? w ⟨b, o + m, none⟩ cx
  rw [hR]
  clear h hS hv hat hl hR hx hy hP hF hn hN
  go_enter Tryz.func38, Tryz.ntmps38
  go_wp2
  refine region_post (puts := fun pb a => (((((((((((((((a.put (some 8) (.pointer (some ⟨t, 0, none⟩))).put (some 9) (.slice (some ⟨b, o, none⟩) N cap)).put (some 10) (.int .i64 (n : Int))).put (some 11) (.int .i64 (m : Int))).put (some 12) (.pointer (some ⟨b, o + m, none⟩))).put (some 13) (.int .i64 x)).put (some 14) (.int .i64 (kd x))).put (some 15) (.pointer (some ⟨t, 0, none⟩))).put (some 16) (.slice (some ⟨b, o, none⟩) N cap)).put (some 17) (.int .i64 (n : Int))).put (some 18) (.pointer (some ⟨b, o + n, none⟩))).put (some 19) (.int .i64 y)).put (some 20) (.int .i64 (kd y))).put (some 21) (.agg #[.int .i64 (kd x), .int .i64 (kd y)])).put (some 7) (.pointer (some ⟨pb, 0, none⟩))))
    (G := fun pb W => Below w.heap.size w W ∧ w.heap.size ≤ pb ∧ W.heap[pb]? = some (.cells #[.int .i64 (kd x), .int .i64 (kd y)] 90 (0, 0))) ?_ ?_
  · refine wp_region_noPanic ?_
    refine wp_region_held_drew (S := fun w' => w'.cell? ⟨b, o + m, none⟩ = some (.int .i64 x) ∧ w'.cell? ⟨b, o + n, none⟩ = some (.int .i64 y)) (by kernel_rfl) ⟨cx, cy⟩ (fun hHeld => ?_)
    have B1 : Below w.heap.size w w.drew := (Below.refl _ w).drew
    generalize w.drew = w1 at *
    refine wpAnyH_take (i := 0) (v := ?_) rfl (by kernel_rfl) (by kernel_rfl) (by kernel_rfl) (fun _ _ _ h => h) (Or.inl ⟨by rfl, ?_⟩) (by assumption) ?_
    rotate_left
    · (intro w' hSw; (try dsimp only at hSw); go_simp; try with_reducible rfl)
    try simp only [Act.put, List.setIfInBounds_toArray, List.set_cons_zero, List.set_cons_succ]
    refine wpAnyH_take (i := 1) (v := ?_) rfl (by kernel_rfl) (by kernel_rfl) (by kernel_rfl) (fun _ _ _ h => h) (Or.inl ⟨by rfl, ?_⟩) (by assumption) ?_
    rotate_left
    · (intro w' hSw; (try dsimp only at hSw); go_simp; try with_reducible rfl)
    try simp only [Act.put, List.setIfInBounds_toArray, List.set_cons_zero, List.set_cons_succ]
    refine wpAnyH_take (i := 2) (v := ?_) rfl (by kernel_rfl) (by kernel_rfl) (by kernel_rfl) (fun _ _ _ h => h) (Or.inl ⟨by rfl, ?_⟩) (by assumption) ?_
    rotate_left
    · (intro w' hSw; (try dsimp only at hSw); go_simp; try with_reducible rfl)
    try simp only [Act.put, List.setIfInBounds_toArray, List.set_cons_zero, List.set_cons_succ]
    refine wpAnyH_take (i := 3) (v := ?_) rfl (by kernel_rfl) (by kernel_rfl) (by kernel_rfl) (fun _ _ _ h => h) (Or.inl ⟨by rfl, ?_⟩) (by assumption) ?_
    rotate_left
    · (intro w' hSw; (try dsimp only at hSw); go_simp; try with_reducible rfl)
    try simp only [Act.put, List.setIfInBounds_toArray, List.set_cons_zero, List.set_cons_succ]
    refine wpAnyH_take (i := 4) (v := ?_) rfl (by kernel_rfl) (by kernel_rfl) (by kernel_rfl) (fun _ _ _ h => h) (Or.inl ⟨by rfl, ?_⟩) (by assumption) ?_
    rotate_left
    · (intro w' hSw; (try dsimp only at hSw); go_simp; try with_reducible rfl)
    try simp only [Act.put, List.setIfInBounds_toArray, List.set_cons_zero, List.set_cons_succ]
    refine wpAnyH_take (i := 5) (v := ?_) rfl (by kernel_rfl) (by kernel_rfl) (by kernel_rfl) (fun _ _ _ h => h) (Or.inl ⟨by rfl, ?_⟩) (by assumption) ?_
    rotate_left
    · (intro w' hSw; (try dsimp only at hSw); go_simp; try with_reducible rfl)
    try simp only [Act.put, List.setIfInBounds_toArray, List.set_cons_zero, List.set_cons_succ]
    refine wpAnyH_take (i := 7) (v := ?_) rfl (by kernel_rfl) (by kernel_rfl) (by kernel_rfl) (fun _ _ _ h => h) (Or.inl ⟨by rfl, ?_⟩) (by assumption) ?_
    rotate_left
    · (intro w' hSw; (try dsimp only at hSw); go_simp; try with_reducible rfl)
    try simp only [Act.put, List.setIfInBounds_toArray, List.set_cons_zero, List.set_cons_succ]
    refine wpAnyH_take (i := 8) (v := ?_) rfl (by kernel_rfl) (by kernel_rfl) (by kernel_rfl) (fun _ _ _ h => h) (Or.inl ⟨by rfl, ?_⟩) (by assumption) ?_
    rotate_left
    · (intro w' hSw; (try dsimp only at hSw); go_simp; try with_reducible rfl)
    try simp only [Act.put, List.setIfInBounds_toArray, List.set_cons_zero, List.set_cons_succ]
    refine wpAnyH_take (i := 9) (v := ?_) rfl (by kernel_rfl) (by kernel_rfl) (by kernel_rfl) (fun _ _ _ h => h) (Or.inl ⟨by rfl, ?_⟩) (by assumption) ?_
    rotate_left
    · (intro w' hSw; (try dsimp only at hSw); go_simp; try with_reducible rfl)
    try simp only [Act.put, List.setIfInBounds_toArray, List.set_cons_zero, List.set_cons_succ]
    refine wpAnyH_take (i := 10) (v := ?_) rfl (by kernel_rfl) (by kernel_rfl) (by kernel_rfl) (fun _ _ _ h => h) (Or.inl ⟨by rfl, ?_⟩) (by assumption) ?_
    rotate_left
    · (intro w' hSw; (try dsimp only at hSw); go_simp; try with_reducible rfl)
    try simp only [Act.put, List.setIfInBounds_toArray, List.set_cons_zero, List.set_cons_succ]
    refine wpAnyH_take (i := 11) (v := ?_) rfl (by kernel_rfl) (by kernel_rfl) (by kernel_rfl) (fun _ _ _ h => h) (Or.inl ⟨by rfl, ?_⟩) (by assumption) ?_
    rotate_left
    · (intro w' hSw; (try dsimp only at hSw); go_simp; try with_reducible rfl)
    try simp only [Act.put, List.setIfInBounds_toArray, List.set_cons_zero, List.set_cons_succ]
    refine wpAnyH_ready (rs := [6, 14]) (by kernel_rfl) (by simp) ?_
    refine AllReadyH.cons rfl (fun K hK => ?_) ?_
    · go_simp
      refine (HKI.out x _ B1).mono ?_
      rintro e w2 ⟨rfl, bq⟩
      have B2 : Below w.heap.size w w2 := B1.trans (bq.mono B1.size)
      refine hK.out _ _ ⟨cell_below B2 cx, cell_below B2 cy⟩ (fun hHeld2 => ?_)
      clear bq
      clear hK K hHeld
      have hHeld := hHeld2
      clear hHeld2
      try simp only [Act.put, List.setIfInBounds_toArray, List.set_cons_zero, List.set_cons_succ]
      refine wpAnyH_ready (rs := [12, 14]) (by kernel_rfl) (by simp) ?_
      refine AllReadyH.cons rfl (fun K hK => ?_) ?_
      · go_simp
        refine (HKI.out y _ B2).mono ?_
        rintro e w3 ⟨rfl, bq⟩
        have B3 : Below w.heap.size w w3 := B2.trans (bq.mono B2.size)
        refine hK.out _ _ ⟨cell_below B3 cx, cell_below B3 cy⟩ (fun hHeld2 => ?_)
        clear bq
        clear hK K hHeld
        have hHeld := hHeld2
        clear hHeld2
        try simp only [Act.put, List.setIfInBounds_toArray, List.set_cons_zero, List.set_cons_succ]
        refine wpAnyH_take (i := 13) (v := ?_) rfl (by kernel_rfl) (by kernel_rfl) (by kernel_rfl) (fun _ _ _ h => h) (Or.inl ⟨by rfl, ?_⟩) (by assumption) ?_
        rotate_left
        · (intro w' hSw; (try dsimp only at hSw); go_simp; try with_reducible rfl)
        try simp only [Act.put, List.setIfInBounds_toArray, List.set_cons_zero, List.set_cons_succ]
        refine wpAnyH_ready (rs := [14]) (by kernel_rfl) (by simp) ?_
        refine AllReadyH.cons rfl (fun K hK => ?_) AllReadyH.nil
        go_simp
        have B4 : Below w.heap.size w (w3.alloc (.cells #[.int .i64 0, .int .i64 0] 90)) := B3.alloc B3.size _
        have hp : (w3.alloc (.cells #[.int .i64 0, .int .i64 0] 90)).heap[w3.heap.size]? = some (.cells #[.int .i64 0, .int .i64 0] 90 (0, 0)) := World.alloc_heap_new _ _
        have hpb : w.heap.size ≤ w3.heap.size := B3.size
        refine hK.out _ _ ⟨cell_below B4 cx, cell_below B4 cy⟩ (fun hHeld2 => ?_)
        clear hK K hHeld
        have hHeld := hHeld2
        clear hHeld2
        try simp only [Act.put, List.setIfInBounds_toArray, List.set_cons_zero, List.set_cons_succ]
        generalize w3.alloc (.cells #[.int .i64 0, .int .i64 0] 90) = w4 at *
        have k0 := cell_of_row w4 w3.heap.size 0 _ _ _ hp
        have k1 := cell_of_row w4 w3.heap.size 1 _ _ _ hp
        have f0 := frozen_of_row w4 w3.heap.size 0 _ _ hp
        have f1 := frozen_of_row w4 w3.heap.size 1 _ _ hp
        simp at k0 k1
        refine wpAnyH_ready (rs := [15]) (by kernel_rfl) (by simp) ?_
        refine AllReadyH.cons rfl (fun K hK => ?_) AllReadyH.nil
        go_simp
        refine hK.out _ _ ⟨cell_pair B4 hpb cx, cell_pair B4 hpb cy⟩ (fun hHeld2 => ?_)
        clear hK K hHeld hHeld2
        try simp only [Act.put, List.setIfInBounds_toArray, List.set_cons_zero, List.set_cons_succ]
        refine wpAnyH_done (by kernel_rfl) ?_ _
        refine NoPanic.normal ?_
        exact ⟨rfl, w3.heap.size, rfl, (B4.setCell hpb _).setCell hpb _, hpb, row2_set hp _ _⟩
      refine AllReadyH.cons rfl (fun K hK => ?_) AllReadyH.nil
      go_simp
      have B3 : Below w.heap.size w (w2.alloc (.cells #[.int .i64 0, .int .i64 0] 90)) := B2.alloc B2.size _
      have hp : (w2.alloc (.cells #[.int .i64 0, .int .i64 0] 90)).heap[w2.heap.size]? = some (.cells #[.int .i64 0, .int .i64 0] 90 (0, 0)) := World.alloc_heap_new _ _
      have hpb : w.heap.size ≤ w2.heap.size := B2.size
      refine hK.out _ _ ⟨cell_below B3 cx, cell_below B3 cy⟩ (fun hHeld2 => ?_)
      clear hK K hHeld
      have hHeld := hHeld2
      clear hHeld2
      try simp only [Act.put, List.setIfInBounds_toArray, List.set_cons_zero, List.set_cons_succ]
      generalize w2.alloc (.cells #[.int .i64 0, .int .i64 0] 90) = w3 at *
      refine wpAnyH_ready (rs := [12]) (by kernel_rfl) (by simp) ?_
      refine AllReadyH.cons rfl (fun K hK => ?_) AllReadyH.nil
      go_simp
      refine (HKI.out y _ B3).mono ?_
      rintro e w4 ⟨rfl, bq⟩
      have B4 : Below w.heap.size w w4 := B3.trans (bq.mono B3.size)
      have hp := (bq.block _ (Array.getElem?_eq_some_iff.1 hp).1).trans hp
      refine hK.out _ _ ⟨cell_below B4 cx, cell_below B4 cy⟩ (fun hHeld2 => ?_)
      clear bq
      clear hK K hHeld
      have hHeld := hHeld2
      clear hHeld2
      try simp only [Act.put, List.setIfInBounds_toArray, List.set_cons_zero, List.set_cons_succ]
      refine wpAnyH_take (i := 13) (v := ?_) rfl (by kernel_rfl) (by kernel_rfl) (by kernel_rfl) (fun _ _ _ h => h) (Or.inl ⟨by rfl, ?_⟩) (by assumption) ?_
      rotate_left
      · (intro w' hSw; (try dsimp only at hSw); go_simp; try with_reducible rfl)
      try simp only [Act.put, List.setIfInBounds_toArray, List.set_cons_zero, List.set_cons_succ]
      have k0 := cell_of_row w4 w2.heap.size 0 _ _ _ hp
      have k1 := cell_of_row w4 w2.heap.size 1 _ _ _ hp
      have f0 := frozen_of_row w4 w2.heap.size 0 _ _ hp
      have f1 := frozen_of_row w4 w2.heap.size 1 _ _ hp
      simp at k0 k1
      refine wpAnyH_ready (rs := [15]) (by kernel_rfl) (by simp) ?_
      refine AllReadyH.cons rfl (fun K hK => ?_) AllReadyH.nil
      go_simp
      refine hK.out _ _ ⟨cell_pair B4 hpb cx, cell_pair B4 hpb cy⟩ (fun hHeld2 => ?_)
      clear hK K hHeld hHeld2
      try simp only [Act.put, List.setIfInBounds_toArray, List.set_cons_zero, List.set_cons_succ]
      refine wpAnyH_done (by kernel_rfl) ?_ _
      refine NoPanic.normal ?_
      exact ⟨rfl, w2.heap.size, rfl, (B4.setCell hpb _).setCell hpb _, hpb, row2_set hp _ _⟩
    refine AllReadyH.cons rfl (fun K hK => ?_) AllReadyH.nil
    go_simp
    have B2 : Below w.heap.size w (w1.alloc (.cells #[.int .i64 0, .int .i64 0] 90)) := B1.alloc B1.size _
    have hp : (w1.alloc (.cells #[.int .i64 0, .int .i64 0] 90)).heap[w1.heap.size]? = some (.cells #[.int .i64 0, .int .i64 0] 90 (0, 0)) := World.alloc_heap_new _ _
    have hpb : w.heap.size ≤ w1.heap.size := B1.size
    refine hK.out _ _ ⟨cell_below B2 cx, cell_below B2 cy⟩ (fun hHeld2 => ?_)
    clear hK K hHeld
    have hHeld := hHeld2
    clear hHeld2
    try simp only [Act.put, List.setIfInBounds_toArray, List.set_cons_zero, List.set_cons_succ]
    generalize w1.alloc (.cells #[.int .i64 0, .int .i64 0] 90) = w2 at *
    refine wpAnyH_ready (rs := [6]) (by kernel_rfl) (by simp) ?_
    refine AllReadyH.cons rfl (fun K hK => ?_) AllReadyH.nil
    go_simp
    refine (HKI.out x _ B2).mono ?_
    rintro e w3 ⟨rfl, bq⟩
    have B3 : Below w.heap.size w w3 := B2.trans (bq.mono B2.size)
    have hp := (bq.block _ (Array.getElem?_eq_some_iff.1 hp).1).trans hp
    refine hK.out _ _ ⟨cell_below B3 cx, cell_below B3 cy⟩ (fun hHeld2 => ?_)
    clear bq
    clear hK K hHeld
    have hHeld := hHeld2
    clear hHeld2
    try simp only [Act.put, List.setIfInBounds_toArray, List.set_cons_zero, List.set_cons_succ]
    refine wpAnyH_ready (rs := [12]) (by kernel_rfl) (by simp) ?_
    refine AllReadyH.cons rfl (fun K hK => ?_) AllReadyH.nil
    go_simp
    refine (HKI.out y _ B3).mono ?_
    rintro e w4 ⟨rfl, bq⟩
    have B4 : Below w.heap.size w w4 := B3.trans (bq.mono B3.size)
    have hp := (bq.block _ (Array.getElem?_eq_some_iff.1 hp).1).trans hp
    refine hK.out _ _ ⟨cell_below B4 cx, cell_below B4 cy⟩ (fun hHeld2 => ?_)
    clear bq
    clear hK K hHeld
    have hHeld := hHeld2
    clear hHeld2
    try simp only [Act.put, List.setIfInBounds_toArray, List.set_cons_zero, List.set_cons_succ]
    refine wpAnyH_take (i := 13) (v := ?_) rfl (by kernel_rfl) (by kernel_rfl) (by kernel_rfl) (fun _ _ _ h => h) (Or.inl ⟨by rfl, ?_⟩) (by assumption) ?_
    rotate_left
    · (intro w' hSw; (try dsimp only at hSw); go_simp; try with_reducible rfl)
    try simp only [Act.put, List.setIfInBounds_toArray, List.set_cons_zero, List.set_cons_succ]
    have k0 := cell_of_row w4 w1.heap.size 0 _ _ _ hp
    have k1 := cell_of_row w4 w1.heap.size 1 _ _ _ hp
    have f0 := frozen_of_row w4 w1.heap.size 0 _ _ hp
    have f1 := frozen_of_row w4 w1.heap.size 1 _ _ hp
    simp at k0 k1
    refine wpAnyH_ready (rs := [15]) (by kernel_rfl) (by simp) ?_
    refine AllReadyH.cons rfl (fun K hK => ?_) AllReadyH.nil
    go_simp
    refine hK.out _ _ ⟨cell_pair B4 hpb cx, cell_pair B4 hpb cy⟩ (fun hHeld2 => ?_)
    clear hK K hHeld hHeld2
    try simp only [Act.put, List.setIfInBounds_toArray, List.set_cons_zero, List.set_cons_succ]
    refine wpAnyH_done (by kernel_rfl) ?_ _
    refine NoPanic.normal ?_
    exact ⟨rfl, w1.heap.size, rfl, (B4.setCell hpb _).setCell hpb _, hpb, row2_set hp _ _⟩
  · rintro pb W ⟨BW, hpb, hp⟩
    simp only [Act.put, List.setIfInBounds_toArray, List.set_cons_zero, List.set_cons_succ]
    have c0 := cell_of_row W pb 0 _ _ _ hp
    have c1 := cell_of_row W pb 1 _ _ _ hp
    simp at c0 c1
    have HBW : Hid (Below w.heap.size w W) := BW
    have HP : Hid (W.heap[pb]? = some (.cells #[.int .i64 (kd x), .int .i64 (kd y)] 90 (0, 0))) := hp
    have HIS : Hid (∀ a b, Calls Tryz.prog 58 #[.agg #[.int .i64 a, .int .i64 b]] W fun e w' => e = .returned (.bool (inSyl a b)) ∧ Below W.heap.size W w') := fun a b => insyl_any a b W (HSY.out.below BW)
    clear BW hp HKI cx cy hpb
    generalize kd x = a at *
    generalize kd y = b' at *
    by_cases ha1 : a = 1
    · have q1 : (a == 1) = true := by rw [ha1]; rfl
      by_cases hb2 : b' = 2
      · have q2 : (b' == 2) = true := by rw [hb2]; rfl
        have hR : R = false := HR.out.trans (rule_cr ha1 hb2)
        clear HR
        subst hR
        go_wp2
        try rw [Exit.noGoto_ret]
        go_ret
        exact ⟨rfl, HBW.out⟩
      · have q2 : (b' == 2) = false := beq_eq_false_iff_ne.2 hb2
        have ea : alone a = true := by rw [ha1]; rfl
        have HR2 : Hid (R = true) := HR.out.trans (rule_alone (fun h => hb2 h.2) (by rw [ea]; rfl))
        clear ha1 hb2
        have C := alone_any a W
        rw [ea] at C
        go_wp2_with fail
        refine C.mono ?_
        rintro e wz ⟨rfl, hw⟩
        rw [hw]
        clear C hw wz
        have hR : R = true := HR2.out
        clear HR
        subst hR
        go_wp2
        try rw [Exit.noGoto_ret]
        go_ret
        exact ⟨rfl, HBW.out⟩
    have q1 : (a == 1) = false := beq_eq_false_iff_ne.2 ha1
    have HA1 : Hid (a ≠ 1) := ha1
    clear ha1
    cases ea : alone a with
    | true =>
      have HR2 : Hid (R = true) := HR.out.trans (rule_alone (fun h => HA1.out h.1) (by rw [ea]; rfl))
      have C := alone_any a W
      rw [ea] at C
      go_wp2_with fail
      refine C.mono ?_
      rintro e wz ⟨rfl, hw⟩
      rw [hw]
      clear C hw wz
      have hR : R = true := HR2.out
      clear HR
      subst hR
      go_wp2
      try rw [Exit.noGoto_ret]
      go_ret
      exact ⟨rfl, HBW.out⟩
    | false =>
      have C := alone_any a W
      rw [ea] at C
      go_wp2_with fail
      refine C.mono ?_
      rintro e wz ⟨rfl, hw⟩
      rw [hw]
      clear C hw wz
      cases eb : alone b' with
      | true =>
        have HR2 : Hid (R = true) := HR.out.trans (rule_alone (fun h => HA1.out h.1) (by rw [eb, Bool.or_true]))
        have C := alone_any b' W
        rw [eb] at C
        go_wp2_with fail
        refine C.mono ?_
        rintro e wz ⟨rfl, hw⟩
        rw [hw]
        clear C hw wz
        have hR : R = true := HR2.out
        clear HR
        subst hR
        go_wp2
        try rw [Exit.noGoto_ret]
        go_ret
        exact ⟨rfl, HBW.out⟩
      | false =>
        have C := alone_any b' W
        rw [eb] at C
        go_wp2_with fail
        refine C.mono ?_
        rintro e wz ⟨rfl, hw⟩
        rw [hw]
        clear C hw wz
        have C := HIS.out a b'
        cases es : inSyl a b' with
        | true =>
          have HR2 : Hid (R = false) := HR.out.trans (rule_with ea eb (by rw [es]; rfl))
          rw [es] at C
          go_wp2_with fail
          refine C.mono ?_
          rintro e W2 ⟨rfl, b2⟩
          have HB2 : Hid (Below w.heap.size w W2) := HBW.out.trans (b2.mono HBW.out.size)
          clear C b2
          have hR : R = false := HR2.out
          clear HR
          subst hR
          go_wp2
          try rw [Exit.noGoto_ret]
          go_ret
          exact ⟨rfl, HB2.out⟩
        | false =>
          rw [es] at C
          go_wp2_with fail
          refine C.mono ?_
          rintro e W2 ⟨rfl, b2⟩
          have HB2 : Hid (Below w.heap.size w W2) := HBW.out.trans (b2.mono HBW.out.size)
          have hp2 : W2.heap[pb]? = some (.cells #[.int .i64 a, .int .i64 b'] 90 (0, 0)) := (b2.block _ (Array.getElem?_eq_some_iff.1 HP.out).1).trans HP.out
          have d0 := cell_of_row W2 pb 0 _ _ _ hp2
          have d1 := cell_of_row W2 pb 1 _ _ _ hp2
          simp at d0 d1
          clear C b2 c0 c1 HP hp2 HIS HBW
          cases et : trails b' with
          | true =>
            have HR2 : Hid (R = false) := HR.out.trans (rule_with ea eb (by rw [es, et]; rfl))
            have C := trails_any b' W2
            rw [et] at C
            go_wp2_with fail
            refine C.mono ?_
            rintro e wz ⟨rfl, hw⟩
            rw [hw]
            clear C hw wz
            have hR : R = false := HR2.out
            clear HR
            subst hR
            go_wp2
            try rw [Exit.noGoto_ret]
            go_ret
            exact ⟨rfl, HB2.out⟩
          | false =>
            have C := trails_any b' W2
            rw [et] at C
            go_wp2_with fail
            refine C.mono ?_
            rintro e wz ⟨rfl, hw⟩
            rw [hw]
            clear C hw wz
            by_cases h12 : a = 12
            · have q12 : (a == 12) = true := by rw [h12]; rfl
              have HR2 : Hid (R = false) := HR.out.trans (rule_with ea eb (by rw [es, et, q12]; rfl))
              clear h12
              have hR : R = false := HR2.out
              clear HR
              subst hR
              go_wp2
              try rw [Exit.noGoto_ret]
              go_ret
              exact ⟨rfl, HB2.out⟩
            have q12 : (a == 12) = false := beq_eq_false_iff_ne.2 h12
            have hRR : R = if a = 10 ∧ b' = 13 then !P else if a = 14 ∧ b' = 14 then F % 2 == 0 else true := HR.out.trans (rule_rest ea eb es et h12)
            clear ea eb es et h12 HA1 HR
            have HRR : Hid (R = if a = 10 ∧ b' = 13 then !P else if a = 14 ∧ b' = 14 then F % 2 == 0 else true) := hRR
            clear hRR
            by_cases h10 : a = 10
            · have q10 : (a == 10) = true := by rw [h10]; rfl
              have q14 : (a == 14) = false := by rw [h10]; rfl
              by_cases h13 : b' = 13
              · have q13 : (b' == 13) = true := by rw [h13]; rfl
                have hR : R = !P := HRR.out.trans (if_pos ⟨h10, h13⟩)
                clear HRR h10 h13
                subst hR
                have C := HPI.out W2 HB2.out
                go_wp2_with fail
                refine C.mono ?_
                rintro e W3 ⟨rfl, b3⟩
                have HB3 : Hid (Below w.heap.size w W3) := HB2.out.trans (b3.mono HB2.out.size)
                clear C b3
                go_wp2
                try rw [Exit.noGoto_ret]
                go_ret
                exact ⟨rfl, HB3.out⟩
              · have q13 : (b' == 13) = false := beq_eq_false_iff_ne.2 h13
                have hR : R = true := HRR.out.trans ((if_neg (fun h => h13 h.2)).trans (if_neg (fun h => by rw [h10] at h; exact absurd h.1 (by decide))))
                clear HRR h10 h13
                subst hR
                go_wp2
                try rw [Exit.noGoto_ret]
                go_ret
                exact ⟨rfl, HB2.out⟩
            have q10 : (a == 10) = false := beq_eq_false_iff_ne.2 h10
            by_cases h14 : a = 14
            · have q14 : (a == 14) = true := by rw [h14]; rfl
              by_cases hb14 : b' = 14
              · have qb14 : (b' == 14) = true := by rw [hb14]; rfl
                have hR : R = (F % 2 == 0) := HRR.out.trans ((if_neg (fun h => h10 h.1)).trans (if_pos ⟨h14, hb14⟩))
                have hF : ((F : Int) % 2 == 0) = R := by rw [hR, Bool.eq_iff_iff, beq_iff_eq, beq_iff_eq]; omega
                have tm : Int.tmod (F : Int) 2 = (F : Int) % 2 := Int.tmod_eq_emod_of_nonneg (by omega)
                have wy : IntKind.i64.wrap ((F : Int) % 2) = (F : Int) % 2 := by rw [IntKind.wrap_i64]; omega
                clear HRR h10 h14 hb14 hR
                have C := HFI.out W2 HB2.out
                go_wp2_with fail
                refine C.mono ?_
                rintro e W3 ⟨rfl, b3⟩
                have HB3 : Hid (Below w.heap.size w W3) := HB2.out.trans (b3.mono HB2.out.size)
                clear C b3
                go_wp2
                try rw [Exit.noGoto_ret]
                go_ret
                exact ⟨by first | rfl | (rw [hF]; rfl), HB3.out⟩
              · have qb14 : (b' == 14) = false := beq_eq_false_iff_ne.2 hb14
                have hR : R = true := HRR.out.trans ((if_neg (fun h => h10 h.1)).trans (if_neg (fun h => hb14 h.2)))
                clear HRR h10 h14 hb14
                subst hR
                go_wp2
                try rw [Exit.noGoto_ret]
                go_ret
                exact ⟨rfl, HB2.out⟩
            have q14 : (a == 14) = false := beq_eq_false_iff_ne.2 h14
            have hR : R = true := HRR.out.trans ((if_neg (fun h => h10 h.1)).trans (if_neg (fun h => h14 h.1)))
            clear HRR h10 h14
            subst hR
            go_wp2
            try rw [Exit.noGoto_ret]
            go_ret
            exact ⟨rfl, HB2.out⟩
end Go.Proofs.YtbdojobplhpnbaaGreatDoor.clu
end

section
/- cluster.Edge, cluster.Next. -/
set_option linter.unusedVariables false
set_option linter.unusedSimpArgs false
namespace Go.Proofs.YtbdojobplhpnbaaGreatDoor.clu
open Go.RowKit Go.Maps
open Go.Proofs.YtbdojobplhpnbaaGreatDoor.lin Go.Proofs.YtbdojobplhpnbaaGreatDoor.prp

set_option maxHeartbeats 8000000 in
set_option maxRecDepth 1000000 in
theorem edge_t (t : Nat) (ao : Option Addr) (N cap : Nat) (l : List Int) (i : Int) (w : World) (h : Tabs w t) (hS : Syl w) (hv : Txt w ao N cap l) :
    Calls Tryz.prog 12 #[.pointer (some ⟨t, 0, none⟩), .slice ao N cap, .int .i64 i] w fun e w' => e = .returned (.bool (edgeP l i)) ∧ Below w.heap.size w w' := by
  have hl := hv.length
  have hlen := hv.len
  have C := cmade_t t w h
  have HPT : Hid (∀ W m n, Below w.heap.size w W → n = m + 1 → n < N → Calls Tryz.prog 38 #[.pointer (some ⟨t, 0, none⟩), .slice ao N cap, .int .i64 (n : Int)] W fun e w' => e = .returned (.bool (parted l n)) ∧ Below W.heap.size W w') := fun W m n hb hn hN => parted_t t ao N cap m n l W (h.below hb) (hS.below hb) (hv.below hb) hn hN
  obtain ⟨R, hR⟩ : ∃ R, edgeP l i = R := ⟨_, rfl⟩
  have HE : Hid ((if N = 0 ∨ i < 0 ∨ (N : Int) < i then false else if i = 0 ∨ i = N then true else parted l i.toNat) = R) := by unfold Hid; rw [← hR, ← hl]; rfl
  rw [hR]
  clear h hS hv hl hR
  by_cases h0 : N = 0
  · have hRf : R = false := by rw [← HE.out, if_pos (.inl h0)]
    clear HE
    subst hRf h0
    go_enter Tryz.func12, Tryz.ntmps12
    go_wp2_with fail
    refine C.mono ?_
    rintro e w1 ⟨rfl, hb⟩
    clear C
    go_wp2
    try rw [Exit.noGoto_ret]
    go_ret
    exact ⟨rfl, hb⟩
  have q0 : ((N : Int) == 0) = false := by rw [beq_eq_false_iff_ne]; omega
  by_cases h1 : i < 0
  · have hRf : R = false := by rw [← HE.out, if_pos (.inr (.inl h1))]
    clear HE
    subst hRf
    go_enter Tryz.func12, Tryz.ntmps12
    go_wp2_with fail
    refine C.mono ?_
    rintro e w1 ⟨rfl, hb⟩
    clear C
    go_wp2
    try rw [Exit.noGoto_ret]
    go_ret
    exact ⟨rfl, hb⟩
  by_cases h2 : (N : Int) < i
  · have hRf : R = false := by rw [← HE.out, if_pos (.inr (.inr h2))]
    clear HE
    subst hRf
    go_enter Tryz.func12, Tryz.ntmps12
    go_wp2_with fail
    refine C.mono ?_
    rintro e w1 ⟨rfl, hb⟩
    clear C
    go_wp2
    try rw [Exit.noGoto_ret]
    go_ret
    exact ⟨rfl, hb⟩
  by_cases h3 : i = 0
  · have hRf : R = true := by rw [← HE.out, if_neg (by omega), if_pos (.inl h3)]
    clear HE
    subst hRf h3
    go_enter Tryz.func12, Tryz.ntmps12
    go_wp2_with fail
    refine C.mono ?_
    rintro e w1 ⟨rfl, hb⟩
    clear C
    go_wp2
    try rw [Exit.noGoto_ret]
    go_ret
    exact ⟨rfl, hb⟩
  have q3 : (i == 0) = false := beq_eq_false_iff_ne.2 h3
  by_cases h4 : i = N
  · have hRf : R = true := by rw [← HE.out, if_neg (by omega), if_pos (.inr h4)]
    have q4 : (i == (N : Int)) = true := by rw [h4]; exact beq_self_eq_true _
    clear HE h4 h3
    subst hRf
    go_enter Tryz.func12, Tryz.ntmps12
    go_wp2_with fail
    refine C.mono ?_
    rintro e w1 ⟨rfl, hb⟩
    clear C
    go_wp2
    try rw [Exit.noGoto_ret]
    go_ret
    exact ⟨rfl, hb⟩
  have q4 : (i == (N : Int)) = false := beq_eq_false_iff_ne.2 h4
  obtain ⟨m, hm⟩ : ∃ m : Nat, i = ((m + 1 : Nat) : Int) := ⟨i.toNat - 1, by omega⟩
  obtain ⟨n, hn⟩ : ∃ n : Nat, n = m + 1 := ⟨_, rfl⟩
  rw [← hn] at hm
  subst hm
  have hRf : R = parted l n := by rw [← HE.out, if_neg (by omega), if_neg (by omega), Int.toNat_natCast]
  have HP : Hid (∀ W, Below w.heap.size w W → Calls Tryz.prog 38 #[.pointer (some ⟨t, 0, none⟩), .slice ao N cap, .int .i64 (n : Int)] W fun e w' => e = .returned (.bool R) ∧ Below W.heap.size W w') := fun W hb => by rw [hRf]; exact HPT.out W m n hb hn (by omega)
  clear HE HPT hRf hn h3 h4
  go_enter Tryz.func12, Tryz.ntmps12
  go_wp2_with fail
  refine C.mono ?_
  rintro e w1 ⟨rfl, hb⟩
  clear C
  have C := HP.out w1 hb
  go_wp2_with fail
  refine C.mono ?_
  rintro e w2 ⟨rfl, hb2⟩
  clear C
  go_wp2
  go_ret
  exact ⟨rfl, hb.trans (hb2.mono hb.size)⟩
set_option maxRecDepth 1000000 in
theorem edge_no (v u : Value) (i : Int) (w : World) (h : Unmade w v) : Calls Tryz.prog 12 #[v, u, .int .i64 i] w fun e w' => e = .returned (.bool false) ∧ w' = w := by
  have C := cmade_no v w h
  clear h
  go_enter Tryz.func12, Tryz.ntmps12
  go_wp2_with fail
  refine C.mono ?_
  rintro e w1 ⟨rfl, hw⟩
  rw [hw]
  clear C hw
  go_wp2
  try rw [Exit.noGoto_ret]
  go_ret
  exact ⟨rfl, rfl⟩
set_option maxRecDepth 1000000 in
theorem next_no (v u : Value) (i : Int) (w : World) (h : Unmade w v) : Calls Tryz.prog 16 #[v, u, .int .i64 i] w fun e w' => e = .returned (.int .i64 0) ∧ w' = w := by
  have C := cmade_no v w h
  clear h
  go_enter Tryz.func16, Tryz.ntmps16
  go_wp2_with fail
  refine C.mono ?_
  rintro e w1 ⟨rfl, hw⟩
  rw [hw]
  clear C hw
  go_wp2
  go_ret
  exact ⟨rfl, rfl⟩
set_option maxHeartbeats 4000000 in
set_option maxRecDepth 1000000 in
theorem next_out (t : Nat) (ao : Option Addr) (N cap : Nat) (i : Int) (w : World) (h : Tabs w t) (hi : i < 0 ∨ (N : Int) ≤ i) :
    Calls Tryz.prog 16 #[.pointer (some ⟨t, 0, none⟩), .slice ao N cap, .int .i64 i] w fun e w' => e = .returned (.int .i64 i) ∧ Below w.heap.size w w' := by
  have C := cmade_t t w h
  clear h
  by_cases h1 : i < 0
  · clear hi
    go_enter Tryz.func16, Tryz.ntmps16
    go_wp2_with fail
    refine C.mono ?_
    rintro e w1 ⟨rfl, hb⟩
    clear C
    go_wp2
    go_ret
    exact ⟨rfl, hb⟩
  · have h2 : (N : Int) ≤ i := by omega
    clear hi
    go_enter Tryz.func16, Tryz.ntmps16
    go_wp2_with fail
    refine C.mono ?_
    rintro e w1 ⟨rfl, hb⟩
    clear C
    go_wp2
    go_ret
    exact ⟨rfl, hb⟩
set_option maxHeartbeats 4000000 in
set_option maxRecDepth 1000000 in
theorem next_t (t : Nat) (ao : Option Addr) (N cap : Nat) (l : List Int) (i : Int) (w : World) (h : Tabs w t) (hS : Syl w) (hv : Txt w ao N cap l) (h0 : 0 ≤ i) (hN : i < N) :
    Calls Tryz.prog 16 #[.pointer (some ⟨t, 0, none⟩), .slice ao N cap, .int .i64 i] w fun e w' => ∃ m, e = .returned (.int .i64 m) ∧ IsNext l i m ∧ Below w.heap.size w w' := by
  have hl := hv.length
  have hlen := hv.len
  have C := cmade_t t w h
  have HEI : Hid (∀ W j, Below w.heap.size w W → Calls Tryz.prog 12 #[.pointer (some ⟨t, 0, none⟩), .slice ao N cap, .int .i64 j] W fun e w' => e = .returned (.bool (edgeP l j)) ∧ Below W.heap.size W w') := fun W j hb => edge_t t ao N cap l j W (h.below hb) (hS.below hb) (hv.below hb)
  have HEND : Hid (edgeP l (N : Int) = true) := by unfold Hid; rw [← hl]; exact edge_end (by omega)
  have HFIN : Hid (∀ m, i < m → m ≤ N → edgeP l m = true → (∀ j, i < j → j < m → edgeP l j = false) → IsNext l i m) := fun m h1 h2 h3 h4 => ⟨h1, by rw [hl]; exact h2, h3, h4⟩
  have hi1 : ¬ i < 0 := by omega
  have hi2 : ¬ (N : Int) ≤ i := by omega
  have w1 : IntKind.i64.wrap (i + 1) = i + 1 := by rw [IntKind.wrap_i64]; omega
  clear h hS hv hl
  go_enter Tryz.func16, Tryz.ntmps16
  go_wp2_with fail
  refine C.mono ?_
  rintro e wa ⟨rfl, hb⟩
  clear C
  have HB0 : Hid (Below w.heap.size w wa) := hb
  clear hb
  go_wp2
  go_loopw [2] (fun v wr => ∃ j : Int, i < j ∧ j ≤ N ∧ v = .int .i64 j ∧ Hid (∀ k, i < k → k < j → edgeP l k = false) ∧ Hid (Below w.heap.size w wr)) (fun v _ => ((N : Int) - RowKit.intOf v).toNat)
  case atStart => exact ⟨i + 1, by omega, by omega, rfl, fun k h1 h2 => by omega, HB0⟩
  case round =>
    clear HB0
    obtain ⟨j, hj1, hj2, rfl, HNO, HB⟩ := hrel
    have C := HEI.out wr j HB.out
    cases he : edgeP l j with
    | true =>
      rw [he] at C
      have HF : Hid (IsNext l i j) := HFIN.out j hj1 hj2 he HNO.out
      clear he HNO
      go_wp2_with fail
      refine C.mono ?_
      rintro e wb ⟨rfl, hb⟩
      clear C
      have HB2 : Hid (Below w.heap.size w wb) := HB.out.trans (hb.mono HB.out.size)
      clear hb HB
      go_wp2
      go_ret
      exact ⟨_, rfl, HF.out, HB2.out⟩
    | false =>
      rw [he] at C
      have hjn : j ≠ N := fun e => by rw [e, HEND.out] at he; cases he
      have HNO2 : Hid (∀ k, i < k → k < j + 1 → edgeP l k = false) := fun k h1 h2 => by
        by_cases e : k = j
        · rw [e]; exact he
        · exact HNO.out k h1 (by omega)
      have hjn2 : j < N := by omega
      have w2 : IntKind.i64.wrap (j + 1) = j + 1 := by rw [IntKind.wrap_i64]; omega
      clear he HNO hjn
      go_wp2_with fail
      refine C.mono ?_
      rintro e wb ⟨rfl, hb⟩
      clear C
      have HB2 : Hid (Below w.heap.size w wb) := HB.out.trans (hb.mono HB.out.size)
      clear hb HB
      go_wp2
      exact ⟨⟨j + 1, by omega, by omega, rfl, HNO2, HB2⟩, by simp [RowKit.intOf]; omega⟩
end Go.Proofs.YtbdojobplhpnbaaGreatDoor.clu
end
