/- Texts that the proof leans on, one behind the other. -/
import Derived.Test.YtcmhkfiijdomiaaGreatDoorBdWrd2

section
/- The closures of words, subject.near. -/
set_option linter.unusedVariables false
set_option linter.unusedSimpArgs false
namespace Go.Proofs.YtcmhkfiijdomiaaGreatDoor.wrd
open Go.RowKit Go.Maps
open Go.Proofs.YtcmhkfiijdomiaaGreatDoor.lin Go.Proofs.YtcmhkfiijdomiaaGreatDoor.prp

/-- A region, by what holds behind it. -/
theorem region_k {P : Program} {id : Nat} {ops : Array Oper} {bb : Bool} {Q : Exit → Act → World → Prop} {a : Act} {w : World} {ι : Type} (puts : ι → Act → Act) (G : ι → World → Prop)
    (h1 : (Code.region id ops bb).wp P (fun e a' W => e = .normal ∧ ∃ v, a' = puts v a ∧ G v W) a w) (h2 : ∀ v W, G v W → Q .normal (puts v a) W) : (Code.region id ops bb).wp P Q a w :=
  Code.wp_mono (fun e a' W h => by obtain ⟨rfl, v, rfl, hG⟩ := h; exact h2 v W hG) h1
theorem set1_same {w : World} {g : Nat} {t : TypeId} {a : Value} (h : w.heap[g]? = some (.cells #[a] t (0, 0))) (x : Value) : (w.setCell ⟨g, 0, none⟩ x).heap[g]? = some (.cells #[x] t (0, 0)) := by
  have h1 := heap_setCell_same w g 0 _ t x h
  simpa using h1
theorem set1_other {w : World} {g k : Nat} {o : Obj} {x : Value} (hne : k ≠ g) (h : w.heap[k]? = some o) : (w.setCell ⟨g, 0, none⟩ x).heap[k]? = some o := by
  rw [heap_setCell_other w ⟨g, 0, none⟩ k x hne]; exact h
theorem alloc1_old {w : World} {k : Nat} {o o' : Obj} (h : w.heap[k]? = some o') : (w.alloc o).heap[k]? = some o' := by
  rw [Below.heap_alloc _ _ _ (Array.getElem?_eq_some_iff.1 h).1]; exact h
/-- Within a region: what lies there since before it, and the three cells that are read. -/
structure Rg (w base : World) (g : Nat) (v0 v1 v2 : Value) (k : World) : Prop where
  B : Below w.heap.size w k
  D : Below base.heap.size base k
  S : k.cell? ⟨g, 0, none⟩ = some v0 ∧ k.cell? ⟨g, 1, none⟩ = some v1 ∧ k.cell? ⟨g, 2, none⟩ = some v2
/-- A variable that the region made. -/
structure Pt (base : World) (p : Nat) (v : Value) (k : World) : Prop where
  ge : base.heap.size ≤ p
  hp : k.heap[p]? = some (.cells #[v] 98 (0, 0))
theorem Rg.call {w base k k' : World} {g : Nat} {v0 v1 v2 : Value} (h : Rg w base g v0 v1 v2 k) (b : Below k.heap.size k k') : Rg w base g v0 v1 v2 k' :=
  ⟨h.B.trans (b.mono h.B.size), h.D.trans (b.mono h.D.size), cell_below b h.S.1, cell_below b h.S.2.1, cell_below b h.S.2.2⟩
theorem Rg.alloc {w base k : World} {g : Nat} {v0 v1 v2 : Value} (h : Rg w base g v0 v1 v2 k) (o : Obj) : Rg w base g v0 v1 v2 (k.alloc o) := h.call ((Below.refl _ k).alloc (Nat.le_refl _) o)
theorem Rg.set {w base k : World} {g p : Nat} {v0 v1 v2 : Value} (h : Rg w base g v0 v1 v2 k) (hb : base.heap.size ≤ p) (x : Value) (hg : g < base.heap.size := by assumption) (hw : w.heap.size ≤ base.heap.size := by assumption) : Rg w base g v0 v1 v2 (k.setCell ⟨p, 0, none⟩ x) := by
  have hne : ∀ j, (k.setCell ⟨p, 0, none⟩ x).cell? ⟨g, j, none⟩ = k.cell? ⟨g, j, none⟩ := fun j => by
    have e := heap_setCell_other k ⟨p, 0, none⟩ g x (by simp only; omega)
    unfold World.cell?
    simp only [e]
  exact ⟨h.B.setCell (Nat.le_trans hw hb) _, h.D.setCell hb _, by rw [hne]; exact h.S.1, by rw [hne]; exact h.S.2.1, by rw [hne]; exact h.S.2.2⟩
theorem Pt.cell {base k : World} {p : Nat} {v : Value} (h : Pt base p v k) : k.cell? ⟨p, 0, none⟩ = some v := by
  have := cell_of_row k p 0 _ _ _ h.hp
  simpa using this
theorem Pt.frozen {base k : World} {p : Nat} {v : Value} (h : Pt base p v k) : k.frozen? ⟨p, 0, none⟩ = false := frozen_of_row k p 0 _ _ h.hp
theorem Pt.call {base k k' : World} {p : Nat} {v : Value} (h : Pt base p v k) (b : Below k.heap.size k k') : Pt base p v k' := ⟨h.ge, (b.block _ (Array.getElem?_eq_some_iff.1 h.hp).1).trans h.hp⟩
theorem Pt.old {base k : World} {p : Nat} {v : Value} (h : Pt base p v k) (o : Obj) : Pt base p v (k.alloc o) := h.call ((Below.refl _ k).alloc (Nat.le_refl _) o)
theorem Pt.ne {base k : World} {p : Nat} {v : Value} (h : Pt base p v k) : p ≠ k.heap.size := Nat.ne_of_lt (Array.getElem?_eq_some_iff.1 h.hp).1
theorem Rg.new {w base k : World} {g : Nat} {v0 v1 v2 : Value} (h : Rg w base g v0 v1 v2 k) : Pt base k.heap.size (.int .u32 0) (k.alloc (.cells #[.int .u32 0] 98)) := ⟨h.D.size, World.alloc_heap_new _ _⟩
theorem Pt.same {base k : World} {p : Nat} {v : Value} (h : Pt base p v k) (x : Value) : Pt base p x (k.setCell ⟨p, 0, none⟩ x) := ⟨h.ge, set1_same h.hp x⟩
theorem Pt.other {base k : World} {p q : Nat} {v x : Value} (h : Pt base p v k) (hne : p ≠ q) : Pt base p v (k.setCell ⟨q, 0, none⟩ x) := ⟨h.ge, set1_other hne h.hp⟩
theorem of_fin20 {P : Int → Prop} (h : ∀ j : Fin 20, P (j.val : Int)) (k : Int) (h0 : 0 ≤ k) (h1 : k ≤ 19) : P k := by
  have := h ⟨k.toNat, by omega⟩
  simp only at this
  rwa [show ((k.toNat : Nat) : Int) = k by omega] at this
set_option maxRecDepth 100000 in
/-- What the near rules say, by bits. -/
theorem near_bits (a b : Int) (a0 : 0 ≤ a) (a1 : a ≤ 19) (b0 : 0 ≤ b) (b1 : b ≤ 19) : nearV a b = if (inB (bt a) 2 && inB (bt b) 4) = true then 2 else if ((inB (bt a) 14 && inB (bt b) 4294967295) || (inB (bt a) 4294967295 && inB (bt b) 14)) = true then 1 else if ((inB (bt a) 16 && inB (bt b) 128) || (inB (bt a) 256 && inB (bt b) 256) || (inB (bt a) 4294967295 && inB (bt b) 112)) = true then 2 else 0 :=
  of_fin20 (P := fun a => nearV a b = if (inB (bt a) 2 && inB (bt b) 4) = true then 2 else if ((inB (bt a) 14 && inB (bt b) 4294967295) || (inB (bt a) 4294967295 && inB (bt b) 14)) = true then 1 else if ((inB (bt a) 16 && inB (bt b) 128) || (inB (bt a) 256 && inB (bt b) 256) || (inB (bt a) 4294967295 && inB (bt b) 112)) = true then 2 else 0)
    (fun j => of_fin20 (P := fun b => nearV (j.val : Int) b = if (inB (bt (j.val : Int)) 2 && inB (bt b) 4) = true then 2 else if ((inB (bt (j.val : Int)) 14 && inB (bt b) 4294967295) || (inB (bt (j.val : Int)) 4294967295 && inB (bt b) 14)) = true then 1 else if ((inB (bt (j.val : Int)) 16 && inB (bt b) 128) || (inB (bt (j.val : Int)) 256 && inB (bt b) 256) || (inB (bt (j.val : Int)) 4294967295 && inB (bt b) 112)) = true then 2 else 0)
      ((show ∀ j i : Fin 20, nearV (j.val : Int) (i.val : Int) = if (inB (bt (j.val : Int)) 2 && inB (bt (i.val : Int)) 4) = true then 2 else if ((inB (bt (j.val : Int)) 14 && inB (bt (i.val : Int)) 4294967295) || (inB (bt (j.val : Int)) 4294967295 && inB (bt (i.val : Int)) 14)) = true then 1 else if ((inB (bt (j.val : Int)) 16 && inB (bt (i.val : Int)) 128) || (inB (bt (j.val : Int)) 256 && inB (bt (i.val : Int)) 256) || (inB (bt (j.val : Int)) 4294967295 && inB (bt (i.val : Int)) 112)) = true then 2 else 0 from by decide +kernel) j) b b0 b1) a a0 a1
set_option maxRecDepth 1000000 in
theorem touch_any (A B x y : Int) (p3 p4 : Nat) (W : World) (h3 : W.cell? ⟨p3, 0, none⟩ = some (.int .u32 x)) (h4 : W.cell? ⟨p4, 0, none⟩ = some (.int .u32 y)) :
    Calls Tryz.prog 65 #[.int .u32 A, .int .u32 B, .pointer (some ⟨p3, 0, none⟩), .pointer (some ⟨p4, 0, none⟩)] W fun e w' => e = .returned (.bool (inB x A && inB y B)) ∧ w' = W := by
  have C := in_any x A W
  have C2 : Hid (Calls Tryz.prog 66 #[.int .u32 y, .int .u32 B] W fun e w' => e = .returned (.bool (inB y B)) ∧ w' = W) := in_any y B W
  generalize inB y B = Y at *
  cases hX : inB x A with
  | false =>
    rw [hX] at C
    rw [Bool.false_and]
    clear hX C2
    go_enter Tryz.func65, Tryz.ntmps65
    go_wp2_with fail
    refine C.mono ?_
    rintro e w1 ⟨rfl, hw⟩
    rw [hw]
    clear C hw w1
    go_wp2
    go_ret
    exact ⟨rfl, rfl⟩
  | true =>
    rw [hX] at C
    rw [Bool.true_and]
    clear hX
    go_enter Tryz.func65, Tryz.ntmps65
    go_wp2_with fail
    refine C.mono ?_
    rintro e w1 ⟨rfl, hw⟩
    rw [hw]
    clear C hw w1
    have C := C2.out
    clear C2
    go_wp2_with fail
    refine C.mono ?_
    rintro e w1 ⟨rfl, hw⟩
    rw [hw]
    clear C hw w1
    go_wp2
    go_ret
    exact ⟨rfl, rfl⟩
set_option maxHeartbeats 4000000 in
set_option maxRecDepth 1000000 in
theorem near_t (t : Nat) (ao : Option Addr) (N cap : Nat) (l : List Int) (n : Nat) (w : World) (h : Tabs w t) (hv : Txt w ao N cap l) (h0 : 0 < n) (hn : n < N) :
    Calls Tryz.prog 39 #[.agg #[.pointer (some ⟨t, 0, none⟩), .slice ao N cap, .int .i64 (n : Int)]] w fun e w' => e = .returned (.int .i64 (nearV (kAt l ((n : Int) - 1)) (kAt l (n : Int)))) ∧ Below w.heap.size w w' := by
  have hl := hv.length
  have hlen := hv.len
  have BA0 : Below w.heap.size w (w.alloc (.cells #[.pointer (some ⟨t, 0, none⟩), .slice ao N cap, .int .i64 (n : Int)] 69)) := (Below.refl _ w).alloc (Nat.le_refl _) _
  have nb := World.alloc_heap_new w (.cells #[.pointer (some ⟨t, 0, none⟩), .slice ao N cap, .int .i64 (n : Int)] 69)
  have hW0s : w.heap.size ≤ (w.alloc (.cells #[.pointer (some ⟨t, 0, none⟩), .slice ao N cap, .int .i64 (n : Int)] 69)).heap.size := BA0.size
  have HKI : Hid (∀ (W : World) (i : Int), Below w.heap.size w W → Calls Tryz.prog 64 #[.agg #[.pointer (some ⟨t, 0, none⟩), .slice ao N cap, .int .i64 (n : Int)], .int .i64 i] W fun e w' => e = .returned (.int .u32 (bt (kAt l i))) ∧ Below W.heap.size W w') := fun W i hb => kind_t t ao N cap l n i W (h.below hb) (hv.below hb)
  have hk1 : 0 ≤ kAt l ((n : Int) - 1) ∧ kAt l ((n : Int) - 1) ≤ 19 := by
    obtain ⟨m, rfl⟩ : ∃ m, n = m + 1 := ⟨n - 1, by omega⟩
    rw [show ((m + 1 : Nat) : Int) - 1 = (m : Int) by omega, kAt_in (List.getElem?_eq_getElem (by omega))]
    exact kw_range _
  have hk2 : 0 ≤ kAt l (n : Int) ∧ kAt l (n : Int) ≤ 19 := by
    rw [kAt_in (List.getElem?_eq_getElem (by omega))]
    exact kw_range _
  have hnv := near_bits _ _ hk1.1 hk1.2 hk2.1 hk2.2
  rw [hnv]
  have w0 : IntKind.i64.wrap ((n : Int) - 1) = (n : Int) - 1 := by rw [IntKind.wrap_i64]; omega
  have HKA : Hid (∀ (W : World), Below w.heap.size w W → Calls Tryz.prog 64 #[.agg #[.pointer (some ⟨t, 0, none⟩), .slice ao N cap, .int .i64 (n : Int)], .int .i64 ((n : Int) - 1)] W fun e w' => e = .returned (.int .u32 (bt (kAt l ((n : Int) - 1)))) ∧ Below W.heap.size W w') := fun W hb => HKI.out W _ hb
  have HKB : Hid (∀ (W : World), Below w.heap.size w W → Calls Tryz.prog 64 #[.agg #[.pointer (some ⟨t, 0, none⟩), .slice ao N cap, .int .i64 (n : Int)], .int .i64 (n : Int)] W fun e w' => e = .returned (.int .u32 (bt (kAt l (n : Int)))) ∧ Below W.heap.size W w') := fun W hb => HKI.out W _ hb
  clear h hv hl hk1 hk2 hnv HKI
  generalize bt (kAt l ((n : Int) - 1)) = x at *
  generalize bt (kAt l (n : Int)) = y at *
  obtain ⟨X0, hq0⟩ : ∃ X, (inB x 2 && inB y 4) = X := ⟨_, rfl⟩
  obtain ⟨X1, hq1⟩ : ∃ X, (inB x 14 && inB y 4294967295) = X := ⟨_, rfl⟩
  obtain ⟨X2, hq2⟩ : ∃ X, (inB x 4294967295 && inB y 14) = X := ⟨_, rfl⟩
  obtain ⟨X3, hq3⟩ : ∃ X, (inB x 16 && inB y 128) = X := ⟨_, rfl⟩
  obtain ⟨X4, hq4⟩ : ∃ X, (inB x 256 && inB y 256) = X := ⟨_, rfl⟩
  obtain ⟨X5, hq5⟩ : ∃ X, (inB x 4294967295 && inB y 112) = X := ⟨_, rfl⟩
  rw [hq0, hq1, hq2, hq3, hq4, hq5]
  have q0 : Hid ((inB x 2 && inB y 4) = X0) := hq0
  have q1 : Hid ((inB x 14 && inB y 4294967295) = X1) := hq1
  have q2 : Hid ((inB x 4294967295 && inB y 14) = X2) := hq2
  have q3 : Hid ((inB x 16 && inB y 128) = X3) := hq3
  have q4 : Hid ((inB x 256 && inB y 256) = X4) := hq4
  have q5 : Hid ((inB x 4294967295 && inB y 112) = X5) := hq5
  clear hq0 hq1 hq2 hq3 hq4 hq5
  have HBA : Hid (Below w.heap.size w (w.alloc (.cells #[.pointer (some ⟨t, 0, none⟩), .slice ao N cap, .int .i64 (n : Int)] 69))) := BA0
  clear BA0
  generalize hW0 : w.alloc (.cells #[.pointer (some ⟨t, 0, none⟩), .slice ao N cap, .int .i64 (n : Int)] 69) = W0 at *
  have d0 := cell_of_row _ w.heap.size 0 _ _ _ nb
  have d1 := cell_of_row _ w.heap.size 1 _ _ _ nb
  have d2 := cell_of_row _ w.heap.size 2 _ _ _ nb
  simp at d0 d1 d2
  have hgb : w.heap.size < W0.heap.size := (Array.getElem?_eq_some_iff.1 nb).1
  clear nb
  go_enter Tryz.func39, Tryz.ntmps39
  go_wp2
  try rw [hW0]
  refine region_k (ι := Nat × Nat) (puts := fun v a => (((((((((((a.put (some 6) (.agg #[.pointer (some ⟨t, 0, none⟩), .slice ao N cap, .int .i64 (n : Int)])).put (some 7) (.pointer (some ⟨w.heap.size, 2, none⟩))).put (some 8) (.int .i64 (n : Int))).put (some 9) (.int .i64 ((n : Int) - 1))).put (some 10) (.int .u32 x)).put (some 11) (.agg #[.pointer (some ⟨t, 0, none⟩), .slice ao N cap, .int .i64 (n : Int)])).put (some 12) (.pointer (some ⟨w.heap.size, 2, none⟩))).put (some 13) (.int .i64 (n : Int))).put (some 14) (.int .u32 y)).put (some 3) (.pointer (some ⟨v.1, 0, none⟩))).put (some 4) (.pointer (some ⟨v.2, 0, none⟩))))
    (G := fun v W => Below w.heap.size w W ∧ W.heap[v.1]? = some (.cells #[.int .u32 x] 98 (0, 0)) ∧ W.heap[v.2]? = some (.cells #[.int .u32 y] 98 (0, 0))) ?_ ?_
  · refine wp_region_noPanic ?_
    refine wp_region_held_drew (S := fun w' => w'.cell? ⟨w.heap.size, 0, none⟩ = some (.pointer (some ⟨t, 0, none⟩)) ∧ w'.cell? ⟨w.heap.size, 1, none⟩ = some (.slice ao N cap) ∧ w'.cell? ⟨w.heap.size, 2, none⟩ = some (.int .i64 (n : Int))) (by kernel_rfl) ⟨d0, d1, d2⟩ (fun hHeld => ?_)
    have R : Rg w W0 w.heap.size (.pointer (some ⟨t, 0, none⟩)) (.slice ao N cap) (.int .i64 (n : Int)) W0.drew := ⟨HBA.out.drew, (Below.refl _ W0).drew, by simpa using d0, by simpa using d1, by simpa using d2⟩
    clear hW0
    generalize W0.drew = w1 at *
    refine wpAnyH_take (i := 0) (v := ?_) rfl (by kernel_rfl) (by kernel_rfl) (by kernel_rfl) (fun _ _ _ h => h) (Or.inl ⟨by rfl, ?_⟩) (by assumption) ?_
    rotate_left
    · (intro w' hSw; (try dsimp only at hSw); go_simp; try with_reducible rfl)
    try simp only [Act.put, List.getElem_toArray, List.getElem_cons_zero, List.getElem_cons_succ, List.setIfInBounds_toArray, List.set_cons_zero, List.set_cons_succ]
    refine wpAnyH_take (i := 1) (v := ?_) rfl (by kernel_rfl) (by kernel_rfl) (by kernel_rfl) (fun _ _ _ h => h) (Or.inl ⟨by rfl, ?_⟩) (by assumption) ?_
    rotate_left
    · (intro w' hSw; (try dsimp only at hSw); go_simp; try with_reducible rfl)
    try simp only [Act.put, List.getElem_toArray, List.getElem_cons_zero, List.getElem_cons_succ, List.setIfInBounds_toArray, List.set_cons_zero, List.set_cons_succ]
    refine wpAnyH_take (i := 2) (v := ?_) rfl (by kernel_rfl) (by kernel_rfl) (by kernel_rfl) (fun _ _ _ h => h) (Or.inl ⟨by rfl, ?_⟩) (by assumption) ?_
    rotate_left
    · (intro w' hSw; (try dsimp only at hSw); go_simp; try with_reducible rfl)
    try simp only [Act.put, List.getElem_toArray, List.getElem_cons_zero, List.getElem_cons_succ, List.setIfInBounds_toArray, List.set_cons_zero, List.set_cons_succ]
    refine wpAnyH_take (i := 3) (v := ?_) rfl (by kernel_rfl) (by kernel_rfl) (by kernel_rfl) (fun _ _ _ h => h) (Or.inl ⟨by rfl, ?_⟩) (by assumption) ?_
    rotate_left
    · (intro w' hSw; (try dsimp only at hSw); go_simp; try with_reducible rfl)
    try simp only [Act.put, List.getElem_toArray, List.getElem_cons_zero, List.getElem_cons_succ, List.setIfInBounds_toArray, List.set_cons_zero, List.set_cons_succ]
    refine wpAnyH_take (i := 5) (v := ?_) rfl (by kernel_rfl) (by kernel_rfl) (by kernel_rfl) (fun _ _ _ h => h) (Or.inl ⟨by rfl, ?_⟩) (by assumption) ?_
    rotate_left
    · (intro w' hSw; (try dsimp only at hSw); go_simp; try with_reducible rfl)
    try simp only [Act.put, List.getElem_toArray, List.getElem_cons_zero, List.getElem_cons_succ, List.setIfInBounds_toArray, List.set_cons_zero, List.set_cons_succ]
    refine wpAnyH_take (i := 6) (v := ?_) rfl (by kernel_rfl) (by kernel_rfl) (by kernel_rfl) (fun _ _ _ h => h) (Or.inl ⟨by rfl, ?_⟩) (by assumption) ?_
    rotate_left
    · (intro w' hSw; (try dsimp only at hSw); go_simp; try with_reducible rfl)
    try simp only [Act.put, List.getElem_toArray, List.getElem_cons_zero, List.getElem_cons_succ, List.setIfInBounds_toArray, List.set_cons_zero, List.set_cons_succ]
    refine wpAnyH_take (i := 7) (v := ?_) rfl (by kernel_rfl) (by kernel_rfl) (by kernel_rfl) (fun _ _ _ h => h) (Or.inl ⟨by rfl, ?_⟩) (by assumption) ?_
    rotate_left
    · (intro w' hSw; (try dsimp only at hSw); go_simp; try with_reducible rfl)
    try simp only [Act.put, List.getElem_toArray, List.getElem_cons_zero, List.getElem_cons_succ, List.setIfInBounds_toArray, List.set_cons_zero, List.set_cons_succ]
    refine wpAnyH_ready (rs := [4, 9, 10]) (by kernel_rfl) (by simp) ?_
    refine AllReadyH.cons rfl (fun K hK => ?_) ?_
    · go_simp
      refine (HKA.out _ R.B).mono ?_
      rintro e w2 ⟨rfl, bq⟩
      replace R := R.call bq
      refine hK.out _ _ R.S (fun hHeld2 => ?_)
      clear bq; clear hK K hHeld; have hHeld := hHeld2; clear hHeld2
      try simp only [Act.put, List.getElem_toArray, List.getElem_cons_zero, List.getElem_cons_succ, List.setIfInBounds_toArray, List.set_cons_zero, List.set_cons_succ]
      refine wpAnyH_ready (rs := [8, 9, 10]) (by kernel_rfl) (by simp) ?_
      refine AllReadyH.cons rfl (fun K hK => ?_) ?_
      · go_simp
        refine (HKB.out _ R.B).mono ?_
        rintro e w3 ⟨rfl, bq⟩
        replace R := R.call bq
        refine hK.out _ _ R.S (fun hHeld2 => ?_)
        clear bq; clear hK K hHeld; have hHeld := hHeld2; clear hHeld2
        try simp only [Act.put, List.getElem_toArray, List.getElem_cons_zero, List.getElem_cons_succ, List.setIfInBounds_toArray, List.set_cons_zero, List.set_cons_succ]
        refine wpAnyH_ready (rs := [9, 10]) (by kernel_rfl) (by simp) ?_
        refine AllReadyH.cons rfl (fun K hK => ?_) ?_
        · go_simp
          have P3 := R.new; replace R := R.alloc (.cells #[.int .u32 0] 98)
          refine hK.out _ _ R.S (fun hHeld2 => ?_)
          clear hK K hHeld; have hHeld := hHeld2; clear hHeld2
          try simp only [Act.put, List.getElem_toArray, List.getElem_cons_zero, List.getElem_cons_succ, List.setIfInBounds_toArray, List.set_cons_zero, List.set_cons_succ]
          generalize w3.alloc (.cells #[.int .u32 0] 98) = w4 at *
          refine wpAnyH_ready (rs := [10]) (by kernel_rfl) (by simp) ?_
          refine AllReadyH.cons rfl (fun K hK => ?_) AllReadyH.nil
          go_simp
          have NE : Hid (w4.heap.size ≠ w3.heap.size) := Ne.symm P3.ne
          have P4 := R.new; replace P3 := P3.old (.cells #[.int .u32 0] 98); replace R := R.alloc (.cells #[.int .u32 0] 98)
          refine hK.out _ _ R.S (fun hHeld2 => ?_)
          clear hK K hHeld; have hHeld := hHeld2; clear hHeld2
          try simp only [Act.put, List.getElem_toArray, List.getElem_cons_zero, List.getElem_cons_succ, List.setIfInBounds_toArray, List.set_cons_zero, List.set_cons_succ]
          generalize w4.alloc (.cells #[.int .u32 0] 98) = w5 at *
          have k0 := P3.cell; have f0 := P3.frozen
          refine wpAnyH_ready (rs := [11]) (by kernel_rfl) (by simp) (AllReadyH.cons rfl (fun K hK => ?_) AllReadyH.nil)
          try simp only [Act.put, List.getElem_toArray, List.getElem_cons_zero, List.getElem_cons_succ, List.setIfInBounds_toArray, List.set_cons_zero, List.set_cons_succ]
          go_simp
          replace R := R.set P3.ge (.int .u32 x); replace P4 := P4.other (x := .int .u32 x) NE.out; replace P3 := P3.same (.int .u32 x)
          refine hK.out _ _ R.S (fun hHeld2 => ?_)
          clear hK K hHeld; have hHeld := hHeld2; clear hHeld2
          try simp only [Act.put, List.getElem_toArray, List.getElem_cons_zero, List.getElem_cons_succ, List.setIfInBounds_toArray, List.set_cons_zero, List.set_cons_succ]
          clear k0 f0
          generalize w5.setCell ⟨w3.heap.size, 0, none⟩ (.int .u32 x) = w6 at *
          have k0 := P4.cell; have f0 := P4.frozen
          refine wpAnyH_ready (rs := [12]) (by kernel_rfl) (by simp) (AllReadyH.cons rfl (fun K hK => ?_) AllReadyH.nil)
          try simp only [Act.put, List.getElem_toArray, List.getElem_cons_zero, List.getElem_cons_succ, List.setIfInBounds_toArray, List.set_cons_zero, List.set_cons_succ]
          go_simp
          replace R := R.set P4.ge (.int .u32 y); replace P3 := P3.other (x := .int .u32 y) (Ne.symm NE.out); replace P4 := P4.same (.int .u32 y)
          refine hK.out _ _ R.S (fun hHeld2 => ?_)
          clear hK K hHeld; have hHeld := hHeld2; clear hHeld2
          try simp only [Act.put, List.getElem_toArray, List.getElem_cons_zero, List.getElem_cons_succ, List.setIfInBounds_toArray, List.set_cons_zero, List.set_cons_succ]
          clear k0 f0
          generalize w6.setCell ⟨w4.heap.size, 0, none⟩ (.int .u32 y) = w7 at *
          exact wpAnyH_done (by kernel_rfl) (NoPanic.normal ⟨rfl, (w3.heap.size, w4.heap.size), rfl, R.B, P3.hp, P4.hp⟩) _
        refine AllReadyH.cons rfl (fun K hK => ?_) AllReadyH.nil
        go_simp
        have P4 := R.new; replace R := R.alloc (.cells #[.int .u32 0] 98)
        refine hK.out _ _ R.S (fun hHeld2 => ?_)
        clear hK K hHeld; have hHeld := hHeld2; clear hHeld2
        try simp only [Act.put, List.getElem_toArray, List.getElem_cons_zero, List.getElem_cons_succ, List.setIfInBounds_toArray, List.set_cons_zero, List.set_cons_succ]
        generalize w3.alloc (.cells #[.int .u32 0] 98) = w4 at *
        refine wpAnyH_ready (rs := [9]) (by kernel_rfl) (by simp) ?_
        refine AllReadyH.cons rfl (fun K hK => ?_) AllReadyH.nil
        go_simp
        have NE : Hid (w3.heap.size ≠ w4.heap.size) := P4.ne
        have P3 := R.new; replace P4 := P4.old (.cells #[.int .u32 0] 98); replace R := R.alloc (.cells #[.int .u32 0] 98)
        refine hK.out _ _ R.S (fun hHeld2 => ?_)
        clear hK K hHeld; have hHeld := hHeld2; clear hHeld2
        try simp only [Act.put, List.getElem_toArray, List.getElem_cons_zero, List.getElem_cons_succ, List.setIfInBounds_toArray, List.set_cons_zero, List.set_cons_succ]
        generalize w4.alloc (.cells #[.int .u32 0] 98) = w5 at *
        have k0 := P3.cell; have f0 := P3.frozen
        refine wpAnyH_ready (rs := [11]) (by kernel_rfl) (by simp) (AllReadyH.cons rfl (fun K hK => ?_) AllReadyH.nil)
        try simp only [Act.put, List.getElem_toArray, List.getElem_cons_zero, List.getElem_cons_succ, List.setIfInBounds_toArray, List.set_cons_zero, List.set_cons_succ]
        go_simp
        replace R := R.set P3.ge (.int .u32 x); replace P4 := P4.other (x := .int .u32 x) NE.out; replace P3 := P3.same (.int .u32 x)
        refine hK.out _ _ R.S (fun hHeld2 => ?_)
        clear hK K hHeld; have hHeld := hHeld2; clear hHeld2
        try simp only [Act.put, List.getElem_toArray, List.getElem_cons_zero, List.getElem_cons_succ, List.setIfInBounds_toArray, List.set_cons_zero, List.set_cons_succ]
        clear k0 f0
        generalize w5.setCell ⟨w4.heap.size, 0, none⟩ (.int .u32 x) = w6 at *
        have k0 := P4.cell; have f0 := P4.frozen
        refine wpAnyH_ready (rs := [12]) (by kernel_rfl) (by simp) (AllReadyH.cons rfl (fun K hK => ?_) AllReadyH.nil)
        try simp only [Act.put, List.getElem_toArray, List.getElem_cons_zero, List.getElem_cons_succ, List.setIfInBounds_toArray, List.set_cons_zero, List.set_cons_succ]
        go_simp
        replace R := R.set P4.ge (.int .u32 y); replace P3 := P3.other (x := .int .u32 y) (Ne.symm NE.out); replace P4 := P4.same (.int .u32 y)
        refine hK.out _ _ R.S (fun hHeld2 => ?_)
        clear hK K hHeld; have hHeld := hHeld2; clear hHeld2
        try simp only [Act.put, List.getElem_toArray, List.getElem_cons_zero, List.getElem_cons_succ, List.setIfInBounds_toArray, List.set_cons_zero, List.set_cons_succ]
        clear k0 f0
        generalize w6.setCell ⟨w3.heap.size, 0, none⟩ (.int .u32 y) = w7 at *
        exact wpAnyH_done (by kernel_rfl) (NoPanic.normal ⟨rfl, (w4.heap.size, w3.heap.size), rfl, R.B, P3.hp, P4.hp⟩) _
      refine AllReadyH.cons rfl (fun K hK => ?_) ?_
      · go_simp
        have P3 := R.new; replace R := R.alloc (.cells #[.int .u32 0] 98)
        refine hK.out _ _ R.S (fun hHeld2 => ?_)
        clear hK K hHeld; have hHeld := hHeld2; clear hHeld2
        try simp only [Act.put, List.getElem_toArray, List.getElem_cons_zero, List.getElem_cons_succ, List.setIfInBounds_toArray, List.set_cons_zero, List.set_cons_succ]
        generalize w2.alloc (.cells #[.int .u32 0] 98) = w3 at *
        refine wpAnyH_ready (rs := [8, 10]) (by kernel_rfl) (by simp) ?_
        refine AllReadyH.cons rfl (fun K hK => ?_) ?_
        · go_simp
          refine (HKB.out _ R.B).mono ?_
          rintro e w4 ⟨rfl, bq⟩
          replace R := R.call bq; replace P3 := P3.call bq
          refine hK.out _ _ R.S (fun hHeld2 => ?_)
          clear bq; clear hK K hHeld; have hHeld := hHeld2; clear hHeld2
          try simp only [Act.put, List.getElem_toArray, List.getElem_cons_zero, List.getElem_cons_succ, List.setIfInBounds_toArray, List.set_cons_zero, List.set_cons_succ]
          refine wpAnyH_ready (rs := [10]) (by kernel_rfl) (by simp) ?_
          refine AllReadyH.cons rfl (fun K hK => ?_) AllReadyH.nil
          go_simp
          have NE : Hid (w4.heap.size ≠ w2.heap.size) := Ne.symm P3.ne
          have P4 := R.new; replace P3 := P3.old (.cells #[.int .u32 0] 98); replace R := R.alloc (.cells #[.int .u32 0] 98)
          refine hK.out _ _ R.S (fun hHeld2 => ?_)
          clear hK K hHeld; have hHeld := hHeld2; clear hHeld2
          try simp only [Act.put, List.getElem_toArray, List.getElem_cons_zero, List.getElem_cons_succ, List.setIfInBounds_toArray, List.set_cons_zero, List.set_cons_succ]
          generalize w4.alloc (.cells #[.int .u32 0] 98) = w5 at *
          have k0 := P3.cell; have f0 := P3.frozen
          refine wpAnyH_ready (rs := [11]) (by kernel_rfl) (by simp) (AllReadyH.cons rfl (fun K hK => ?_) AllReadyH.nil)
          try simp only [Act.put, List.getElem_toArray, List.getElem_cons_zero, List.getElem_cons_succ, List.setIfInBounds_toArray, List.set_cons_zero, List.set_cons_succ]
          go_simp
          replace R := R.set P3.ge (.int .u32 x); replace P4 := P4.other (x := .int .u32 x) NE.out; replace P3 := P3.same (.int .u32 x)
          refine hK.out _ _ R.S (fun hHeld2 => ?_)
          clear hK K hHeld; have hHeld := hHeld2; clear hHeld2
          try simp only [Act.put, List.getElem_toArray, List.getElem_cons_zero, List.getElem_cons_succ, List.setIfInBounds_toArray, List.set_cons_zero, List.set_cons_succ]
          clear k0 f0
          generalize w5.setCell ⟨w2.heap.size, 0, none⟩ (.int .u32 x) = w6 at *
          have k0 := P4.cell; have f0 := P4.frozen
          refine wpAnyH_ready (rs := [12]) (by kernel_rfl) (by simp) (AllReadyH.cons rfl (fun K hK => ?_) AllReadyH.nil)
          try simp only [Act.put, List.getElem_toArray, List.getElem_cons_zero, List.getElem_cons_succ, List.setIfInBounds_toArray, List.set_cons_zero, List.set_cons_succ]
          go_simp
          replace R := R.set P4.ge (.int .u32 y); replace P3 := P3.other (x := .int .u32 y) (Ne.symm NE.out); replace P4 := P4.same (.int .u32 y)
          refine hK.out _ _ R.S (fun hHeld2 => ?_)
          clear hK K hHeld; have hHeld := hHeld2; clear hHeld2
          try simp only [Act.put, List.getElem_toArray, List.getElem_cons_zero, List.getElem_cons_succ, List.setIfInBounds_toArray, List.set_cons_zero, List.set_cons_succ]
          clear k0 f0
          generalize w6.setCell ⟨w4.heap.size, 0, none⟩ (.int .u32 y) = w7 at *
          exact wpAnyH_done (by kernel_rfl) (NoPanic.normal ⟨rfl, (w2.heap.size, w4.heap.size), rfl, R.B, P3.hp, P4.hp⟩) _
        refine AllReadyH.cons rfl (fun K hK => ?_) AllReadyH.nil
        go_simp
        have NE : Hid (w3.heap.size ≠ w2.heap.size) := Ne.symm P3.ne
        have P4 := R.new; replace P3 := P3.old (.cells #[.int .u32 0] 98); replace R := R.alloc (.cells #[.int .u32 0] 98)
        refine hK.out _ _ R.S (fun hHeld2 => ?_)
        clear hK K hHeld; have hHeld := hHeld2; clear hHeld2
        try simp only [Act.put, List.getElem_toArray, List.getElem_cons_zero, List.getElem_cons_succ, List.setIfInBounds_toArray, List.set_cons_zero, List.set_cons_succ]
        generalize w3.alloc (.cells #[.int .u32 0] 98) = w4 at *
        refine wpAnyH_ready (rs := [8]) (by kernel_rfl) (by simp) ?_
        refine AllReadyH.cons rfl (fun K hK => ?_) AllReadyH.nil
        go_simp
        refine (HKB.out _ R.B).mono ?_
        rintro e w5 ⟨rfl, bq⟩
        replace R := R.call bq; replace P3 := P3.call bq; replace P4 := P4.call bq
        refine hK.out _ _ R.S (fun hHeld2 => ?_)
        clear bq; clear hK K hHeld; have hHeld := hHeld2; clear hHeld2
        try simp only [Act.put, List.getElem_toArray, List.getElem_cons_zero, List.getElem_cons_succ, List.setIfInBounds_toArray, List.set_cons_zero, List.set_cons_succ]
        have k0 := P3.cell; have f0 := P3.frozen
        refine wpAnyH_ready (rs := [11]) (by kernel_rfl) (by simp) (AllReadyH.cons rfl (fun K hK => ?_) AllReadyH.nil)
        try simp only [Act.put, List.getElem_toArray, List.getElem_cons_zero, List.getElem_cons_succ, List.setIfInBounds_toArray, List.set_cons_zero, List.set_cons_succ]
        go_simp
        replace R := R.set P3.ge (.int .u32 x); replace P4 := P4.other (x := .int .u32 x) NE.out; replace P3 := P3.same (.int .u32 x)
        refine hK.out _ _ R.S (fun hHeld2 => ?_)
        clear hK K hHeld; have hHeld := hHeld2; clear hHeld2
        try simp only [Act.put, List.getElem_toArray, List.getElem_cons_zero, List.getElem_cons_succ, List.setIfInBounds_toArray, List.set_cons_zero, List.set_cons_succ]
        clear k0 f0
        generalize w5.setCell ⟨w2.heap.size, 0, none⟩ (.int .u32 x) = w6 at *
        have k0 := P4.cell; have f0 := P4.frozen
        refine wpAnyH_ready (rs := [12]) (by kernel_rfl) (by simp) (AllReadyH.cons rfl (fun K hK => ?_) AllReadyH.nil)
        try simp only [Act.put, List.getElem_toArray, List.getElem_cons_zero, List.getElem_cons_succ, List.setIfInBounds_toArray, List.set_cons_zero, List.set_cons_succ]
        go_simp
        replace R := R.set P4.ge (.int .u32 y); replace P3 := P3.other (x := .int .u32 y) (Ne.symm NE.out); replace P4 := P4.same (.int .u32 y)
        refine hK.out _ _ R.S (fun hHeld2 => ?_)
        clear hK K hHeld; have hHeld := hHeld2; clear hHeld2
        try simp only [Act.put, List.getElem_toArray, List.getElem_cons_zero, List.getElem_cons_succ, List.setIfInBounds_toArray, List.set_cons_zero, List.set_cons_succ]
        clear k0 f0
        generalize w6.setCell ⟨w3.heap.size, 0, none⟩ (.int .u32 y) = w7 at *
        exact wpAnyH_done (by kernel_rfl) (NoPanic.normal ⟨rfl, (w2.heap.size, w3.heap.size), rfl, R.B, P3.hp, P4.hp⟩) _
      refine AllReadyH.cons rfl (fun K hK => ?_) AllReadyH.nil
      go_simp
      have P4 := R.new; replace R := R.alloc (.cells #[.int .u32 0] 98)
      refine hK.out _ _ R.S (fun hHeld2 => ?_)
      clear hK K hHeld; have hHeld := hHeld2; clear hHeld2
      try simp only [Act.put, List.getElem_toArray, List.getElem_cons_zero, List.getElem_cons_succ, List.setIfInBounds_toArray, List.set_cons_zero, List.set_cons_succ]
      generalize w2.alloc (.cells #[.int .u32 0] 98) = w3 at *
      refine wpAnyH_ready (rs := [8, 9]) (by kernel_rfl) (by simp) ?_
      refine AllReadyH.cons rfl (fun K hK => ?_) ?_
      · go_simp
        refine (HKB.out _ R.B).mono ?_
        rintro e w4 ⟨rfl, bq⟩
        replace R := R.call bq; replace P4 := P4.call bq
        refine hK.out _ _ R.S (fun hHeld2 => ?_)
        clear bq; clear hK K hHeld; have hHeld := hHeld2; clear hHeld2
        try simp only [Act.put, List.getElem_toArray, List.getElem_cons_zero, List.getElem_cons_succ, List.setIfInBounds_toArray, List.set_cons_zero, List.set_cons_succ]
        refine wpAnyH_ready (rs := [9]) (by kernel_rfl) (by simp) ?_
        refine AllReadyH.cons rfl (fun K hK => ?_) AllReadyH.nil
        go_simp
        have NE : Hid (w2.heap.size ≠ w4.heap.size) := P4.ne
        have P3 := R.new; replace P4 := P4.old (.cells #[.int .u32 0] 98); replace R := R.alloc (.cells #[.int .u32 0] 98)
        refine hK.out _ _ R.S (fun hHeld2 => ?_)
        clear hK K hHeld; have hHeld := hHeld2; clear hHeld2
        try simp only [Act.put, List.getElem_toArray, List.getElem_cons_zero, List.getElem_cons_succ, List.setIfInBounds_toArray, List.set_cons_zero, List.set_cons_succ]
        generalize w4.alloc (.cells #[.int .u32 0] 98) = w5 at *
        have k0 := P3.cell; have f0 := P3.frozen
        refine wpAnyH_ready (rs := [11]) (by kernel_rfl) (by simp) (AllReadyH.cons rfl (fun K hK => ?_) AllReadyH.nil)
        try simp only [Act.put, List.getElem_toArray, List.getElem_cons_zero, List.getElem_cons_succ, List.setIfInBounds_toArray, List.set_cons_zero, List.set_cons_succ]
        go_simp
        replace R := R.set P3.ge (.int .u32 x); replace P4 := P4.other (x := .int .u32 x) NE.out; replace P3 := P3.same (.int .u32 x)
        refine hK.out _ _ R.S (fun hHeld2 => ?_)
        clear hK K hHeld; have hHeld := hHeld2; clear hHeld2
        try simp only [Act.put, List.getElem_toArray, List.getElem_cons_zero, List.getElem_cons_succ, List.setIfInBounds_toArray, List.set_cons_zero, List.set_cons_succ]
        clear k0 f0
        generalize w5.setCell ⟨w4.heap.size, 0, none⟩ (.int .u32 x) = w6 at *
        have k0 := P4.cell; have f0 := P4.frozen
        refine wpAnyH_ready (rs := [12]) (by kernel_rfl) (by simp) (AllReadyH.cons rfl (fun K hK => ?_) AllReadyH.nil)
        try simp only [Act.put, List.getElem_toArray, List.getElem_cons_zero, List.getElem_cons_succ, List.setIfInBounds_toArray, List.set_cons_zero, List.set_cons_succ]
        go_simp
        replace R := R.set P4.ge (.int .u32 y); replace P3 := P3.other (x := .int .u32 y) (Ne.symm NE.out); replace P4 := P4.same (.int .u32 y)
        refine hK.out _ _ R.S (fun hHeld2 => ?_)
        clear hK K hHeld; have hHeld := hHeld2; clear hHeld2
        try simp only [Act.put, List.getElem_toArray, List.getElem_cons_zero, List.getElem_cons_succ, List.setIfInBounds_toArray, List.set_cons_zero, List.set_cons_succ]
        clear k0 f0
        generalize w6.setCell ⟨w2.heap.size, 0, none⟩ (.int .u32 y) = w7 at *
        exact wpAnyH_done (by kernel_rfl) (NoPanic.normal ⟨rfl, (w4.heap.size, w2.heap.size), rfl, R.B, P3.hp, P4.hp⟩) _
      refine AllReadyH.cons rfl (fun K hK => ?_) AllReadyH.nil
      go_simp
      have NE : Hid (w2.heap.size ≠ w3.heap.size) := P4.ne
      have P3 := R.new; replace P4 := P4.old (.cells #[.int .u32 0] 98); replace R := R.alloc (.cells #[.int .u32 0] 98)
      refine hK.out _ _ R.S (fun hHeld2 => ?_)
      clear hK K hHeld; have hHeld := hHeld2; clear hHeld2
      try simp only [Act.put, List.getElem_toArray, List.getElem_cons_zero, List.getElem_cons_succ, List.setIfInBounds_toArray, List.set_cons_zero, List.set_cons_succ]
      generalize w3.alloc (.cells #[.int .u32 0] 98) = w4 at *
      refine wpAnyH_ready (rs := [8]) (by kernel_rfl) (by simp) ?_
      refine AllReadyH.cons rfl (fun K hK => ?_) AllReadyH.nil
      go_simp
      refine (HKB.out _ R.B).mono ?_
      rintro e w5 ⟨rfl, bq⟩
      replace R := R.call bq; replace P3 := P3.call bq; replace P4 := P4.call bq
      refine hK.out _ _ R.S (fun hHeld2 => ?_)
      clear bq; clear hK K hHeld; have hHeld := hHeld2; clear hHeld2
      try simp only [Act.put, List.getElem_toArray, List.getElem_cons_zero, List.getElem_cons_succ, List.setIfInBounds_toArray, List.set_cons_zero, List.set_cons_succ]
      have k0 := P3.cell; have f0 := P3.frozen
      refine wpAnyH_ready (rs := [11]) (by kernel_rfl) (by simp) (AllReadyH.cons rfl (fun K hK => ?_) AllReadyH.nil)
      try simp only [Act.put, List.getElem_toArray, List.getElem_cons_zero, List.getElem_cons_succ, List.setIfInBounds_toArray, List.set_cons_zero, List.set_cons_succ]
      go_simp
      replace R := R.set P3.ge (.int .u32 x); replace P4 := P4.other (x := .int .u32 x) NE.out; replace P3 := P3.same (.int .u32 x)
      refine hK.out _ _ R.S (fun hHeld2 => ?_)
      clear hK K hHeld; have hHeld := hHeld2; clear hHeld2
      try simp only [Act.put, List.getElem_toArray, List.getElem_cons_zero, List.getElem_cons_succ, List.setIfInBounds_toArray, List.set_cons_zero, List.set_cons_succ]
      clear k0 f0
      generalize w5.setCell ⟨w3.heap.size, 0, none⟩ (.int .u32 x) = w6 at *
      have k0 := P4.cell; have f0 := P4.frozen
      refine wpAnyH_ready (rs := [12]) (by kernel_rfl) (by simp) (AllReadyH.cons rfl (fun K hK => ?_) AllReadyH.nil)
      try simp only [Act.put, List.getElem_toArray, List.getElem_cons_zero, List.getElem_cons_succ, List.setIfInBounds_toArray, List.set_cons_zero, List.set_cons_succ]
      go_simp
      replace R := R.set P4.ge (.int .u32 y); replace P3 := P3.other (x := .int .u32 y) (Ne.symm NE.out); replace P4 := P4.same (.int .u32 y)
      refine hK.out _ _ R.S (fun hHeld2 => ?_)
      clear hK K hHeld; have hHeld := hHeld2; clear hHeld2
      try simp only [Act.put, List.getElem_toArray, List.getElem_cons_zero, List.getElem_cons_succ, List.setIfInBounds_toArray, List.set_cons_zero, List.set_cons_succ]
      clear k0 f0
      generalize w6.setCell ⟨w2.heap.size, 0, none⟩ (.int .u32 y) = w7 at *
      exact wpAnyH_done (by kernel_rfl) (NoPanic.normal ⟨rfl, (w3.heap.size, w2.heap.size), rfl, R.B, P3.hp, P4.hp⟩) _
    refine AllReadyH.cons rfl (fun K hK => ?_) ?_
    · go_simp
      have P3 := R.new; replace R := R.alloc (.cells #[.int .u32 0] 98)
      refine hK.out _ _ R.S (fun hHeld2 => ?_)
      clear hK K hHeld; have hHeld := hHeld2; clear hHeld2
      try simp only [Act.put, List.getElem_toArray, List.getElem_cons_zero, List.getElem_cons_succ, List.setIfInBounds_toArray, List.set_cons_zero, List.set_cons_succ]
      generalize w1.alloc (.cells #[.int .u32 0] 98) = w2 at *
      refine wpAnyH_ready (rs := [4, 10]) (by kernel_rfl) (by simp) ?_
      refine AllReadyH.cons rfl (fun K hK => ?_) ?_
      · go_simp
        refine (HKA.out _ R.B).mono ?_
        rintro e w3 ⟨rfl, bq⟩
        replace R := R.call bq; replace P3 := P3.call bq
        refine hK.out _ _ R.S (fun hHeld2 => ?_)
        clear bq; clear hK K hHeld; have hHeld := hHeld2; clear hHeld2
        try simp only [Act.put, List.getElem_toArray, List.getElem_cons_zero, List.getElem_cons_succ, List.setIfInBounds_toArray, List.set_cons_zero, List.set_cons_succ]
        refine wpAnyH_ready (rs := [8, 10]) (by kernel_rfl) (by simp) ?_
        refine AllReadyH.cons rfl (fun K hK => ?_) ?_
        · go_simp
          refine (HKB.out _ R.B).mono ?_
          rintro e w4 ⟨rfl, bq⟩
          replace R := R.call bq; replace P3 := P3.call bq
          refine hK.out _ _ R.S (fun hHeld2 => ?_)
          clear bq; clear hK K hHeld; have hHeld := hHeld2; clear hHeld2
          try simp only [Act.put, List.getElem_toArray, List.getElem_cons_zero, List.getElem_cons_succ, List.setIfInBounds_toArray, List.set_cons_zero, List.set_cons_succ]
          refine wpAnyH_ready (rs := [10]) (by kernel_rfl) (by simp) ?_
          refine AllReadyH.cons rfl (fun K hK => ?_) AllReadyH.nil
          go_simp
          have NE : Hid (w4.heap.size ≠ w1.heap.size) := Ne.symm P3.ne
          have P4 := R.new; replace P3 := P3.old (.cells #[.int .u32 0] 98); replace R := R.alloc (.cells #[.int .u32 0] 98)
          refine hK.out _ _ R.S (fun hHeld2 => ?_)
          clear hK K hHeld; have hHeld := hHeld2; clear hHeld2
          try simp only [Act.put, List.getElem_toArray, List.getElem_cons_zero, List.getElem_cons_succ, List.setIfInBounds_toArray, List.set_cons_zero, List.set_cons_succ]
          generalize w4.alloc (.cells #[.int .u32 0] 98) = w5 at *
          have k0 := P3.cell; have f0 := P3.frozen
          refine wpAnyH_ready (rs := [11]) (by kernel_rfl) (by simp) (AllReadyH.cons rfl (fun K hK => ?_) AllReadyH.nil)
          try simp only [Act.put, List.getElem_toArray, List.getElem_cons_zero, List.getElem_cons_succ, List.setIfInBounds_toArray, List.set_cons_zero, List.set_cons_succ]
          go_simp
          replace R := R.set P3.ge (.int .u32 x); replace P4 := P4.other (x := .int .u32 x) NE.out; replace P3 := P3.same (.int .u32 x)
          refine hK.out _ _ R.S (fun hHeld2 => ?_)
          clear hK K hHeld; have hHeld := hHeld2; clear hHeld2
          try simp only [Act.put, List.getElem_toArray, List.getElem_cons_zero, List.getElem_cons_succ, List.setIfInBounds_toArray, List.set_cons_zero, List.set_cons_succ]
          clear k0 f0
          generalize w5.setCell ⟨w1.heap.size, 0, none⟩ (.int .u32 x) = w6 at *
          have k0 := P4.cell; have f0 := P4.frozen
          refine wpAnyH_ready (rs := [12]) (by kernel_rfl) (by simp) (AllReadyH.cons rfl (fun K hK => ?_) AllReadyH.nil)
          try simp only [Act.put, List.getElem_toArray, List.getElem_cons_zero, List.getElem_cons_succ, List.setIfInBounds_toArray, List.set_cons_zero, List.set_cons_succ]
          go_simp
          replace R := R.set P4.ge (.int .u32 y); replace P3 := P3.other (x := .int .u32 y) (Ne.symm NE.out); replace P4 := P4.same (.int .u32 y)
          refine hK.out _ _ R.S (fun hHeld2 => ?_)
          clear hK K hHeld; have hHeld := hHeld2; clear hHeld2
          try simp only [Act.put, List.getElem_toArray, List.getElem_cons_zero, List.getElem_cons_succ, List.setIfInBounds_toArray, List.set_cons_zero, List.set_cons_succ]
          clear k0 f0
          generalize w6.setCell ⟨w4.heap.size, 0, none⟩ (.int .u32 y) = w7 at *
          exact wpAnyH_done (by kernel_rfl) (NoPanic.normal ⟨rfl, (w1.heap.size, w4.heap.size), rfl, R.B, P3.hp, P4.hp⟩) _
        refine AllReadyH.cons rfl (fun K hK => ?_) AllReadyH.nil
        go_simp
        have NE : Hid (w3.heap.size ≠ w1.heap.size) := Ne.symm P3.ne
        have P4 := R.new; replace P3 := P3.old (.cells #[.int .u32 0] 98); replace R := R.alloc (.cells #[.int .u32 0] 98)
        refine hK.out _ _ R.S (fun hHeld2 => ?_)
        clear hK K hHeld; have hHeld := hHeld2; clear hHeld2
        try simp only [Act.put, List.getElem_toArray, List.getElem_cons_zero, List.getElem_cons_succ, List.setIfInBounds_toArray, List.set_cons_zero, List.set_cons_succ]
        generalize w3.alloc (.cells #[.int .u32 0] 98) = w4 at *
        refine wpAnyH_ready (rs := [8]) (by kernel_rfl) (by simp) ?_
        refine AllReadyH.cons rfl (fun K hK => ?_) AllReadyH.nil
        go_simp
        refine (HKB.out _ R.B).mono ?_
        rintro e w5 ⟨rfl, bq⟩
        replace R := R.call bq; replace P3 := P3.call bq; replace P4 := P4.call bq
        refine hK.out _ _ R.S (fun hHeld2 => ?_)
        clear bq; clear hK K hHeld; have hHeld := hHeld2; clear hHeld2
        try simp only [Act.put, List.getElem_toArray, List.getElem_cons_zero, List.getElem_cons_succ, List.setIfInBounds_toArray, List.set_cons_zero, List.set_cons_succ]
        have k0 := P3.cell; have f0 := P3.frozen
        refine wpAnyH_ready (rs := [11]) (by kernel_rfl) (by simp) (AllReadyH.cons rfl (fun K hK => ?_) AllReadyH.nil)
        try simp only [Act.put, List.getElem_toArray, List.getElem_cons_zero, List.getElem_cons_succ, List.setIfInBounds_toArray, List.set_cons_zero, List.set_cons_succ]
        go_simp
        replace R := R.set P3.ge (.int .u32 x); replace P4 := P4.other (x := .int .u32 x) NE.out; replace P3 := P3.same (.int .u32 x)
        refine hK.out _ _ R.S (fun hHeld2 => ?_)
        clear hK K hHeld; have hHeld := hHeld2; clear hHeld2
        try simp only [Act.put, List.getElem_toArray, List.getElem_cons_zero, List.getElem_cons_succ, List.setIfInBounds_toArray, List.set_cons_zero, List.set_cons_succ]
        clear k0 f0
        generalize w5.setCell ⟨w1.heap.size, 0, none⟩ (.int .u32 x) = w6 at *
        have k0 := P4.cell; have f0 := P4.frozen
        refine wpAnyH_ready (rs := [12]) (by kernel_rfl) (by simp) (AllReadyH.cons rfl (fun K hK => ?_) AllReadyH.nil)
        try simp only [Act.put, List.getElem_toArray, List.getElem_cons_zero, List.getElem_cons_succ, List.setIfInBounds_toArray, List.set_cons_zero, List.set_cons_succ]
        go_simp
        replace R := R.set P4.ge (.int .u32 y); replace P3 := P3.other (x := .int .u32 y) (Ne.symm NE.out); replace P4 := P4.same (.int .u32 y)
        refine hK.out _ _ R.S (fun hHeld2 => ?_)
        clear hK K hHeld; have hHeld := hHeld2; clear hHeld2
        try simp only [Act.put, List.getElem_toArray, List.getElem_cons_zero, List.getElem_cons_succ, List.setIfInBounds_toArray, List.set_cons_zero, List.set_cons_succ]
        clear k0 f0
        generalize w6.setCell ⟨w3.heap.size, 0, none⟩ (.int .u32 y) = w7 at *
        exact wpAnyH_done (by kernel_rfl) (NoPanic.normal ⟨rfl, (w1.heap.size, w3.heap.size), rfl, R.B, P3.hp, P4.hp⟩) _
      refine AllReadyH.cons rfl (fun K hK => ?_) AllReadyH.nil
      go_simp
      have NE : Hid (w2.heap.size ≠ w1.heap.size) := Ne.symm P3.ne
      have P4 := R.new; replace P3 := P3.old (.cells #[.int .u32 0] 98); replace R := R.alloc (.cells #[.int .u32 0] 98)
      refine hK.out _ _ R.S (fun hHeld2 => ?_)
      clear hK K hHeld; have hHeld := hHeld2; clear hHeld2
      try simp only [Act.put, List.getElem_toArray, List.getElem_cons_zero, List.getElem_cons_succ, List.setIfInBounds_toArray, List.set_cons_zero, List.set_cons_succ]
      generalize w2.alloc (.cells #[.int .u32 0] 98) = w3 at *
      refine wpAnyH_ready (rs := [4]) (by kernel_rfl) (by simp) ?_
      refine AllReadyH.cons rfl (fun K hK => ?_) AllReadyH.nil
      go_simp
      refine (HKA.out _ R.B).mono ?_
      rintro e w4 ⟨rfl, bq⟩
      replace R := R.call bq; replace P3 := P3.call bq; replace P4 := P4.call bq
      refine hK.out _ _ R.S (fun hHeld2 => ?_)
      clear bq; clear hK K hHeld; have hHeld := hHeld2; clear hHeld2
      try simp only [Act.put, List.getElem_toArray, List.getElem_cons_zero, List.getElem_cons_succ, List.setIfInBounds_toArray, List.set_cons_zero, List.set_cons_succ]
      refine wpAnyH_ready (rs := [8]) (by kernel_rfl) (by simp) ?_
      refine AllReadyH.cons rfl (fun K hK => ?_) AllReadyH.nil
      go_simp
      refine (HKB.out _ R.B).mono ?_
      rintro e w5 ⟨rfl, bq⟩
      replace R := R.call bq; replace P3 := P3.call bq; replace P4 := P4.call bq
      refine hK.out _ _ R.S (fun hHeld2 => ?_)
      clear bq; clear hK K hHeld; have hHeld := hHeld2; clear hHeld2
      try simp only [Act.put, List.getElem_toArray, List.getElem_cons_zero, List.getElem_cons_succ, List.setIfInBounds_toArray, List.set_cons_zero, List.set_cons_succ]
      have k0 := P3.cell; have f0 := P3.frozen
      refine wpAnyH_ready (rs := [11]) (by kernel_rfl) (by simp) (AllReadyH.cons rfl (fun K hK => ?_) AllReadyH.nil)
      try simp only [Act.put, List.getElem_toArray, List.getElem_cons_zero, List.getElem_cons_succ, List.setIfInBounds_toArray, List.set_cons_zero, List.set_cons_succ]
      go_simp
      replace R := R.set P3.ge (.int .u32 x); replace P4 := P4.other (x := .int .u32 x) NE.out; replace P3 := P3.same (.int .u32 x)
      refine hK.out _ _ R.S (fun hHeld2 => ?_)
      clear hK K hHeld; have hHeld := hHeld2; clear hHeld2
      try simp only [Act.put, List.getElem_toArray, List.getElem_cons_zero, List.getElem_cons_succ, List.setIfInBounds_toArray, List.set_cons_zero, List.set_cons_succ]
      clear k0 f0
      generalize w5.setCell ⟨w1.heap.size, 0, none⟩ (.int .u32 x) = w6 at *
      have k0 := P4.cell; have f0 := P4.frozen
      refine wpAnyH_ready (rs := [12]) (by kernel_rfl) (by simp) (AllReadyH.cons rfl (fun K hK => ?_) AllReadyH.nil)
      try simp only [Act.put, List.getElem_toArray, List.getElem_cons_zero, List.getElem_cons_succ, List.setIfInBounds_toArray, List.set_cons_zero, List.set_cons_succ]
      go_simp
      replace R := R.set P4.ge (.int .u32 y); replace P3 := P3.other (x := .int .u32 y) (Ne.symm NE.out); replace P4 := P4.same (.int .u32 y)
      refine hK.out _ _ R.S (fun hHeld2 => ?_)
      clear hK K hHeld; have hHeld := hHeld2; clear hHeld2
      try simp only [Act.put, List.getElem_toArray, List.getElem_cons_zero, List.getElem_cons_succ, List.setIfInBounds_toArray, List.set_cons_zero, List.set_cons_succ]
      clear k0 f0
      generalize w6.setCell ⟨w2.heap.size, 0, none⟩ (.int .u32 y) = w7 at *
      exact wpAnyH_done (by kernel_rfl) (NoPanic.normal ⟨rfl, (w1.heap.size, w2.heap.size), rfl, R.B, P3.hp, P4.hp⟩) _
    refine AllReadyH.cons rfl (fun K hK => ?_) AllReadyH.nil
    go_simp
    have P4 := R.new; replace R := R.alloc (.cells #[.int .u32 0] 98)
    refine hK.out _ _ R.S (fun hHeld2 => ?_)
    clear hK K hHeld; have hHeld := hHeld2; clear hHeld2
    try simp only [Act.put, List.getElem_toArray, List.getElem_cons_zero, List.getElem_cons_succ, List.setIfInBounds_toArray, List.set_cons_zero, List.set_cons_succ]
    generalize w1.alloc (.cells #[.int .u32 0] 98) = w2 at *
    refine wpAnyH_ready (rs := [4, 9]) (by kernel_rfl) (by simp) ?_
    refine AllReadyH.cons rfl (fun K hK => ?_) ?_
    · go_simp
      refine (HKA.out _ R.B).mono ?_
      rintro e w3 ⟨rfl, bq⟩
      replace R := R.call bq; replace P4 := P4.call bq
      refine hK.out _ _ R.S (fun hHeld2 => ?_)
      clear bq; clear hK K hHeld; have hHeld := hHeld2; clear hHeld2
      try simp only [Act.put, List.getElem_toArray, List.getElem_cons_zero, List.getElem_cons_succ, List.setIfInBounds_toArray, List.set_cons_zero, List.set_cons_succ]
      refine wpAnyH_ready (rs := [8, 9]) (by kernel_rfl) (by simp) ?_
      refine AllReadyH.cons rfl (fun K hK => ?_) ?_
      · go_simp
        refine (HKB.out _ R.B).mono ?_
        rintro e w4 ⟨rfl, bq⟩
        replace R := R.call bq; replace P4 := P4.call bq
        refine hK.out _ _ R.S (fun hHeld2 => ?_)
        clear bq; clear hK K hHeld; have hHeld := hHeld2; clear hHeld2
        try simp only [Act.put, List.getElem_toArray, List.getElem_cons_zero, List.getElem_cons_succ, List.setIfInBounds_toArray, List.set_cons_zero, List.set_cons_succ]
        refine wpAnyH_ready (rs := [9]) (by kernel_rfl) (by simp) ?_
        refine AllReadyH.cons rfl (fun K hK => ?_) AllReadyH.nil
        go_simp
        have NE : Hid (w1.heap.size ≠ w4.heap.size) := P4.ne
        have P3 := R.new; replace P4 := P4.old (.cells #[.int .u32 0] 98); replace R := R.alloc (.cells #[.int .u32 0] 98)
        refine hK.out _ _ R.S (fun hHeld2 => ?_)
        clear hK K hHeld; have hHeld := hHeld2; clear hHeld2
        try simp only [Act.put, List.getElem_toArray, List.getElem_cons_zero, List.getElem_cons_succ, List.setIfInBounds_toArray, List.set_cons_zero, List.set_cons_succ]
        generalize w4.alloc (.cells #[.int .u32 0] 98) = w5 at *
        have k0 := P3.cell; have f0 := P3.frozen
        refine wpAnyH_ready (rs := [11]) (by kernel_rfl) (by simp) (AllReadyH.cons rfl (fun K hK => ?_) AllReadyH.nil)
        try simp only [Act.put, List.getElem_toArray, List.getElem_cons_zero, List.getElem_cons_succ, List.setIfInBounds_toArray, List.set_cons_zero, List.set_cons_succ]
        go_simp
        replace R := R.set P3.ge (.int .u32 x); replace P4 := P4.other (x := .int .u32 x) NE.out; replace P3 := P3.same (.int .u32 x)
        refine hK.out _ _ R.S (fun hHeld2 => ?_)
        clear hK K hHeld; have hHeld := hHeld2; clear hHeld2
        try simp only [Act.put, List.getElem_toArray, List.getElem_cons_zero, List.getElem_cons_succ, List.setIfInBounds_toArray, List.set_cons_zero, List.set_cons_succ]
        clear k0 f0
        generalize w5.setCell ⟨w4.heap.size, 0, none⟩ (.int .u32 x) = w6 at *
        have k0 := P4.cell; have f0 := P4.frozen
        refine wpAnyH_ready (rs := [12]) (by kernel_rfl) (by simp) (AllReadyH.cons rfl (fun K hK => ?_) AllReadyH.nil)
        try simp only [Act.put, List.getElem_toArray, List.getElem_cons_zero, List.getElem_cons_succ, List.setIfInBounds_toArray, List.set_cons_zero, List.set_cons_succ]
        go_simp
        replace R := R.set P4.ge (.int .u32 y); replace P3 := P3.other (x := .int .u32 y) (Ne.symm NE.out); replace P4 := P4.same (.int .u32 y)
        refine hK.out _ _ R.S (fun hHeld2 => ?_)
        clear hK K hHeld; have hHeld := hHeld2; clear hHeld2
        try simp only [Act.put, List.getElem_toArray, List.getElem_cons_zero, List.getElem_cons_succ, List.setIfInBounds_toArray, List.set_cons_zero, List.set_cons_succ]
        clear k0 f0
        generalize w6.setCell ⟨w1.heap.size, 0, none⟩ (.int .u32 y) = w7 at *
        exact wpAnyH_done (by kernel_rfl) (NoPanic.normal ⟨rfl, (w4.heap.size, w1.heap.size), rfl, R.B, P3.hp, P4.hp⟩) _
      refine AllReadyH.cons rfl (fun K hK => ?_) AllReadyH.nil
      go_simp
      have NE : Hid (w1.heap.size ≠ w3.heap.size) := P4.ne
      have P3 := R.new; replace P4 := P4.old (.cells #[.int .u32 0] 98); replace R := R.alloc (.cells #[.int .u32 0] 98)
      refine hK.out _ _ R.S (fun hHeld2 => ?_)
      clear hK K hHeld; have hHeld := hHeld2; clear hHeld2
      try simp only [Act.put, List.getElem_toArray, List.getElem_cons_zero, List.getElem_cons_succ, List.setIfInBounds_toArray, List.set_cons_zero, List.set_cons_succ]
      generalize w3.alloc (.cells #[.int .u32 0] 98) = w4 at *
      refine wpAnyH_ready (rs := [8]) (by kernel_rfl) (by simp) ?_
      refine AllReadyH.cons rfl (fun K hK => ?_) AllReadyH.nil
      go_simp
      refine (HKB.out _ R.B).mono ?_
      rintro e w5 ⟨rfl, bq⟩
      replace R := R.call bq; replace P3 := P3.call bq; replace P4 := P4.call bq
      refine hK.out _ _ R.S (fun hHeld2 => ?_)
      clear bq; clear hK K hHeld; have hHeld := hHeld2; clear hHeld2
      try simp only [Act.put, List.getElem_toArray, List.getElem_cons_zero, List.getElem_cons_succ, List.setIfInBounds_toArray, List.set_cons_zero, List.set_cons_succ]
      have k0 := P3.cell; have f0 := P3.frozen
      refine wpAnyH_ready (rs := [11]) (by kernel_rfl) (by simp) (AllReadyH.cons rfl (fun K hK => ?_) AllReadyH.nil)
      try simp only [Act.put, List.getElem_toArray, List.getElem_cons_zero, List.getElem_cons_succ, List.setIfInBounds_toArray, List.set_cons_zero, List.set_cons_succ]
      go_simp
      replace R := R.set P3.ge (.int .u32 x); replace P4 := P4.other (x := .int .u32 x) NE.out; replace P3 := P3.same (.int .u32 x)
      refine hK.out _ _ R.S (fun hHeld2 => ?_)
      clear hK K hHeld; have hHeld := hHeld2; clear hHeld2
      try simp only [Act.put, List.getElem_toArray, List.getElem_cons_zero, List.getElem_cons_succ, List.setIfInBounds_toArray, List.set_cons_zero, List.set_cons_succ]
      clear k0 f0
      generalize w5.setCell ⟨w3.heap.size, 0, none⟩ (.int .u32 x) = w6 at *
      have k0 := P4.cell; have f0 := P4.frozen
      refine wpAnyH_ready (rs := [12]) (by kernel_rfl) (by simp) (AllReadyH.cons rfl (fun K hK => ?_) AllReadyH.nil)
      try simp only [Act.put, List.getElem_toArray, List.getElem_cons_zero, List.getElem_cons_succ, List.setIfInBounds_toArray, List.set_cons_zero, List.set_cons_succ]
      go_simp
      replace R := R.set P4.ge (.int .u32 y); replace P3 := P3.other (x := .int .u32 y) (Ne.symm NE.out); replace P4 := P4.same (.int .u32 y)
      refine hK.out _ _ R.S (fun hHeld2 => ?_)
      clear hK K hHeld; have hHeld := hHeld2; clear hHeld2
      try simp only [Act.put, List.getElem_toArray, List.getElem_cons_zero, List.getElem_cons_succ, List.setIfInBounds_toArray, List.set_cons_zero, List.set_cons_succ]
      clear k0 f0
      generalize w6.setCell ⟨w1.heap.size, 0, none⟩ (.int .u32 y) = w7 at *
      exact wpAnyH_done (by kernel_rfl) (NoPanic.normal ⟨rfl, (w3.heap.size, w1.heap.size), rfl, R.B, P3.hp, P4.hp⟩) _
    refine AllReadyH.cons rfl (fun K hK => ?_) AllReadyH.nil
    go_simp
    have NE : Hid (w1.heap.size ≠ w2.heap.size) := P4.ne
    have P3 := R.new; replace P4 := P4.old (.cells #[.int .u32 0] 98); replace R := R.alloc (.cells #[.int .u32 0] 98)
    refine hK.out _ _ R.S (fun hHeld2 => ?_)
    clear hK K hHeld; have hHeld := hHeld2; clear hHeld2
    try simp only [Act.put, List.getElem_toArray, List.getElem_cons_zero, List.getElem_cons_succ, List.setIfInBounds_toArray, List.set_cons_zero, List.set_cons_succ]
    generalize w2.alloc (.cells #[.int .u32 0] 98) = w3 at *
    refine wpAnyH_ready (rs := [4]) (by kernel_rfl) (by simp) ?_
    refine AllReadyH.cons rfl (fun K hK => ?_) AllReadyH.nil
    go_simp
    refine (HKA.out _ R.B).mono ?_
    rintro e w4 ⟨rfl, bq⟩
    replace R := R.call bq; replace P3 := P3.call bq; replace P4 := P4.call bq
    refine hK.out _ _ R.S (fun hHeld2 => ?_)
    clear bq; clear hK K hHeld; have hHeld := hHeld2; clear hHeld2
    try simp only [Act.put, List.getElem_toArray, List.getElem_cons_zero, List.getElem_cons_succ, List.setIfInBounds_toArray, List.set_cons_zero, List.set_cons_succ]
    refine wpAnyH_ready (rs := [8]) (by kernel_rfl) (by simp) ?_
    refine AllReadyH.cons rfl (fun K hK => ?_) AllReadyH.nil
    go_simp
    refine (HKB.out _ R.B).mono ?_
    rintro e w5 ⟨rfl, bq⟩
    replace R := R.call bq; replace P3 := P3.call bq; replace P4 := P4.call bq
    refine hK.out _ _ R.S (fun hHeld2 => ?_)
    clear bq; clear hK K hHeld; have hHeld := hHeld2; clear hHeld2
    try simp only [Act.put, List.getElem_toArray, List.getElem_cons_zero, List.getElem_cons_succ, List.setIfInBounds_toArray, List.set_cons_zero, List.set_cons_succ]
    have k0 := P3.cell; have f0 := P3.frozen
    refine wpAnyH_ready (rs := [11]) (by kernel_rfl) (by simp) (AllReadyH.cons rfl (fun K hK => ?_) AllReadyH.nil)
    try simp only [Act.put, List.getElem_toArray, List.getElem_cons_zero, List.getElem_cons_succ, List.setIfInBounds_toArray, List.set_cons_zero, List.set_cons_succ]
    go_simp
    replace R := R.set P3.ge (.int .u32 x); replace P4 := P4.other (x := .int .u32 x) NE.out; replace P3 := P3.same (.int .u32 x)
    refine hK.out _ _ R.S (fun hHeld2 => ?_)
    clear hK K hHeld; have hHeld := hHeld2; clear hHeld2
    try simp only [Act.put, List.getElem_toArray, List.getElem_cons_zero, List.getElem_cons_succ, List.setIfInBounds_toArray, List.set_cons_zero, List.set_cons_succ]
    clear k0 f0
    generalize w5.setCell ⟨w2.heap.size, 0, none⟩ (.int .u32 x) = w6 at *
    have k0 := P4.cell; have f0 := P4.frozen
    refine wpAnyH_ready (rs := [12]) (by kernel_rfl) (by simp) (AllReadyH.cons rfl (fun K hK => ?_) AllReadyH.nil)
    try simp only [Act.put, List.getElem_toArray, List.getElem_cons_zero, List.getElem_cons_succ, List.setIfInBounds_toArray, List.set_cons_zero, List.set_cons_succ]
    go_simp
    replace R := R.set P4.ge (.int .u32 y); replace P3 := P3.other (x := .int .u32 y) (Ne.symm NE.out); replace P4 := P4.same (.int .u32 y)
    refine hK.out _ _ R.S (fun hHeld2 => ?_)
    clear hK K hHeld; have hHeld := hHeld2; clear hHeld2
    try simp only [Act.put, List.getElem_toArray, List.getElem_cons_zero, List.getElem_cons_succ, List.setIfInBounds_toArray, List.set_cons_zero, List.set_cons_succ]
    clear k0 f0
    generalize w6.setCell ⟨w1.heap.size, 0, none⟩ (.int .u32 y) = w7 at *
    exact wpAnyH_done (by kernel_rfl) (NoPanic.normal ⟨rfl, (w2.heap.size, w1.heap.size), rfl, R.B, P3.hp, P4.hp⟩) _
  · rintro ⟨p3, p4⟩ W ⟨BW, h3, h4⟩
    simp only [Act.put, List.setIfInBounds_toArray, List.set_cons_zero, List.set_cons_succ]
    have c3 := cell_of_row W p3 0 _ _ _ h3
    have c4 := cell_of_row W p4 0 _ _ _ h4
    simp at c3 c4
    have HBW : Hid (Below w.heap.size w W) := BW
    have HTO : Hid (∀ A B, Calls Tryz.prog 65 #[.int .u32 A, .int .u32 B, .pointer (some ⟨p3, 0, none⟩), .pointer (some ⟨p4, 0, none⟩)] W fun e w' => e = .returned (.bool (inB x A && inB y B)) ∧ w' = W) := fun A B => touch_any A B x y p3 p4 W c3 c4
    clear BW h3 h4 HKA HKB hW0 d0 d1 d2 c3 c4 w0
    cases X0 with
    | true =>
      have C := HTO.out 2 4
      rw [q0.out] at C
      clear q0
      go_wp2_with fail
      refine C.mono ?_
      rintro e wz ⟨rfl, hw⟩
      rw [hw]
      clear C hw wz
      go_wp2
      try rw [Exit.noGoto_ret]
      go_ret
      exact ⟨by first | rfl | simp, HBW.out⟩
    | false =>
      have C := HTO.out 2 4
      rw [q0.out] at C
      clear q0
      go_wp2_with fail
      refine C.mono ?_
      rintro e wz ⟨rfl, hw⟩
      rw [hw]
      clear C hw wz
      cases X1 with
      | true =>
        have C := HTO.out 14 4294967295
        rw [q1.out] at C
        clear q1
        go_wp2_with fail
        refine C.mono ?_
        rintro e wz ⟨rfl, hw⟩
        rw [hw]
        clear C hw wz
        go_wp2
        try rw [Exit.noGoto_ret]
        go_ret
        exact ⟨by first | rfl | simp, HBW.out⟩
      | false =>
        have C := HTO.out 14 4294967295
        rw [q1.out] at C
        clear q1
        go_wp2_with fail
        refine C.mono ?_
        rintro e wz ⟨rfl, hw⟩
        rw [hw]
        clear C hw wz
        cases X2 with
        | true =>
          have C := HTO.out 4294967295 14
          rw [q2.out] at C
          clear q2
          go_wp2_with fail
          refine C.mono ?_
          rintro e wz ⟨rfl, hw⟩
          rw [hw]
          clear C hw wz
          go_wp2
          try rw [Exit.noGoto_ret]
          go_ret
          exact ⟨by first | rfl | simp, HBW.out⟩
        | false =>
          have C := HTO.out 4294967295 14
          rw [q2.out] at C
          clear q2
          go_wp2_with fail
          refine C.mono ?_
          rintro e wz ⟨rfl, hw⟩
          rw [hw]
          clear C hw wz
          cases X3 with
          | true =>
            have C := HTO.out 16 128
            rw [q3.out] at C
            clear q3
            go_wp2_with fail
            refine C.mono ?_
            rintro e wz ⟨rfl, hw⟩
            rw [hw]
            clear C hw wz
            go_wp2
            try rw [Exit.noGoto_ret]
            go_ret
            exact ⟨by first | rfl | simp, HBW.out⟩
          | false =>
            have C := HTO.out 16 128
            rw [q3.out] at C
            clear q3
            go_wp2_with fail
            refine C.mono ?_
            rintro e wz ⟨rfl, hw⟩
            rw [hw]
            clear C hw wz
            cases X4 with
            | true =>
              have C := HTO.out 256 256
              rw [q4.out] at C
              clear q4
              go_wp2_with fail
              refine C.mono ?_
              rintro e wz ⟨rfl, hw⟩
              rw [hw]
              clear C hw wz
              go_wp2
              try rw [Exit.noGoto_ret]
              go_ret
              exact ⟨by first | rfl | simp, HBW.out⟩
            | false =>
              have C := HTO.out 256 256
              rw [q4.out] at C
              clear q4
              go_wp2_with fail
              refine C.mono ?_
              rintro e wz ⟨rfl, hw⟩
              rw [hw]
              clear C hw wz
              cases X5 with
              | true =>
                have C := HTO.out 4294967295 112
                rw [q5.out] at C
                clear q5
                go_wp2_with fail
                refine C.mono ?_
                rintro e wz ⟨rfl, hw⟩
                rw [hw]
                clear C hw wz
                go_wp2
                try rw [Exit.noGoto_ret]
                go_ret
                exact ⟨by first | rfl | simp, HBW.out⟩
              | false =>
                have C := HTO.out 4294967295 112
                rw [q5.out] at C
                clear q5
                go_wp2_with fail
                refine C.mono ?_
                rintro e wz ⟨rfl, hw⟩
                rw [hw]
                clear C hw wz
                go_wp2
                try rw [Exit.noGoto_ret]
                go_ret
                exact ⟨by first | rfl | simp, HBW.out⟩
end Go.Proofs.YtcmhkfiijdomiaaGreatDoor.wrd
end
