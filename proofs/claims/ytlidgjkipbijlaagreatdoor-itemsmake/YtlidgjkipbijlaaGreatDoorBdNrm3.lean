/- Texts that the proof leans on, one behind the other. -/
import Derived.Test.YtlidgjkipbijlaaGreatDoorBdNrm2
import Derived.Test.YtlidgjkipbijlaaGreatDoorBdDcp2
import Derived.Test.YtlidgjkipbijlaaGreatDoorBdPrp9
import Derived.Deep.AppendLies
import Derived.Deep.RegionHeld
import Derived.Laws.AppendOwnNone

section
/- The document's NFD of items. -/
set_option linter.unusedVariables false
set_option linter.unusedSimpArgs false
namespace Go.Proofs.YtlidgjkipbijlaaGreatDoor.nrm
open Go.Shelf Go.RowKit Go.Lib Go.Sort Go.Proofs
open Go.Proofs.YtlidgjkipbijlaaGreatDoor.prp Go.Proofs.YtlidgjkipbijlaaGreatDoor.nfd Go.Proofs.YtlidgjkipbijlaaGreatDoor.lin Go.Proofs.YtlidgjkipbijlaaGreatDoor.dcp

theorem ins_past {α : Type} (key : α → Int) (y : α) (X : List α) : ∀ B : List α, (∀ b ∈ B, key y < key b) → insR key y (B ++ X) = B ++ insR key y X
  | [], _ => rfl
  | b :: B, h => by
    rw [List.cons_append, ins_go key y b _ (h b (by simp)), ins_past key y X B (fun c hc => h c (by simp [hc]))]
    rfl
theorem ins_head {α : Type} (key : α → Int) (y : α) (X : List α) (h : ∀ g, X.head? = some g → ¬ key y < key g) : insR key y X = y :: X := by
  cases X with
  | nil => rfl
  | cons g X => exact ins_stop key y g X (h g rfl)
/-- One more goes to its place. -/
theorem ord_put {α : Type} (key : α → Int) (P : List α) (y : α) (k : Nat) (hk : k ≤ (ordL key P).length) (h1 : ∀ j g, k ≤ j → (ordL key P)[j]? = some g → key y < key g)
    (h2 : ∀ g, 0 < k → (ordL key P)[k - 1]? = some g → ¬ key y < key g) (hc : 0 < key y) : ordL key (P ++ [y]) = (ordL key P).take k ++ y :: (ordL key P).drop k := by
  have hR : ordR key P = (ordL key P).reverse := by unfold ordL; rw [List.reverse_reverse]
  unfold ordL
  rw [ordR_snoc, step_pos _ _ _ hc, hR]
  show (insR key y (ordL key P).reverse).reverse = _
  generalize ordL key P = O at *
  have hs : O.reverse = (O.drop k).reverse ++ (O.take k).reverse := by rw [← List.reverse_append, List.take_append_drop]
  rw [hs, ins_past key y _ _ (fun b hb => ?_), ins_head key y _ (fun g hg => ?_)]
  · simp
  · rw [List.head?_reverse, List.getLast?_eq_getElem?, List.length_take, Nat.min_eq_left hk] at hg
    rcases Nat.eq_zero_or_pos k with h0 | h0
    · subst h0; simp at hg
    · rw [List.getElem?_take_of_lt (by omega)] at hg
      exact h2 g h0 hg
  · obtain ⟨i, hi, e⟩ := List.getElem_of_mem (List.mem_reverse.1 hb)
    rw [List.getElem_drop] at e
    have hi2 : k + i < O.length := by rw [List.length_drop] at hi; omega
    exact h1 (k + i) b (by omega) (by rw [List.getElem?_eq_getElem hi2, e])
theorem ord_last {α : Type} (key : α → Int) (P : List α) (y : α) (hc : key y ≤ 0) : ordL key (P ++ [y]) = (ordL key P).take (ordL key P).length ++ y :: (ordL key P).drop (ordL key P).length := by
  rw [ordL_zero key P y hc]
  simp

/-- append in a drawn region: onto a row of the call's own, of a slice that may be nil. -/
theorem step_app {w : World} {ops : Array Oper} {o : Oper} {a : Act} {K : Act → World → Prop} {Q : Exit → Act → World → Prop} {E : Prop} (hgd : o.guard = none) (s x : Operand)
    (ho : o.op = .call { callee := .builtin .append, args := #[s, x], argTypes := #[28, 28] })
    (base : Nat) (v : Value) (L : List nfd.I) (hs : a.eval s = v) (hown : Own3 w base v L)
    (ao : Option Addr) (m c : Nat) (N : List nfd.I) (hx : a.eval x = .slice ao m c) (hl : N.length = m) (hnil : ao = none → m = 0 ∧ c = 0)
    (hnews : ∀ ad, ao = some ad → ∀ j u, (fl N)[j]? = some u → w.cell? (ad.add j) = some u)
    (h63 : L.length + m ≤ 1000000000) (hbase : base ≤ w.heap.size)
    (h : ∀ v' w', Own3 w' base v' (L ++ N) → w.grownBy w' v.ownBlock → K (a.put o.dst v') w') :
    if Region.wanted o (yielded ops a.tmps) = true then Oper.wp Tryz.prog o a w K Q else E := by
  obtain ⟨i0, hi, hz0, hz1, hz2⟩ := rng.info_parts infoItem
  have hw : Region.wanted o (yielded ops a.tmps) = true := by simp [Region.wanted, hgd]
  rw [if_pos hw]
  have hown' : w.ownsRow base 30 3 v L.length (fl L) := hown
  cases ao with
  | none =>
    obtain ⟨rfl, rfl⟩ := hnil rfl
    obtain rfl := List.eq_nil_of_length_eq_zero hl
    have hrun := run_append_owned_none (P := Tryz.prog) (w := w) base 28 o.type 30 i0 3 Tryz.underlying28 hi v L.length (fl L) hown'
    unfold Oper.wp
    simp [execOp, ho, resolve, invoke, builtin, hs, hx, hrun, Result.andThen]
    exact h v w (by rw [List.append_nil]; exact hown) ⟨rfl, rfl, rfl, Nat.le_refl _, fun _ _ _ => rfl⟩
  | some ad =>
    refine wp_append_own w s x 28 ho base 30 i0 (.agg #[.int .i64 0, .int .i64 0, .int .i64 0]) 3 24 Tryz.underlying28 hi hz0 hz1 hz2 rfl (by decide) v L.length (fl L) hs hown' ad m c (fl N) hx (by rw [fl_length, hl]) (hnews ad rfl) (fl_one N) (by unfold maxLen; omega) (by omega) hbase (fun v' w' h2 h3 _ => h v' w' ?_ h3)
    unfold Own3
    rw [List.length_append, fl_append, hl]
    exact h2
theorem pre_cells {w : World} {B g n cap k : Nat} {L : List nfd.I} (h : Own3 w B (.slice (some ⟨g, 0, none⟩) n cap) L) (hn : L.length = n) (hk : 0 ≤ k) : ∀ j u, (fl (L.take k))[j]? = some u → w.cell? ((⟨g, 0, none⟩ : Addr).add j) = some u := fun j u hj => by
  have h' : w.ownsRow B 30 3 (.slice (some ⟨g, 0, none⟩) n cap) L.length (fl L) := h
  rw [Addr.add_lit, Nat.zero_add]
  have hjl : j < (fl (L.take k)).length := (List.getElem?_eq_some_iff.1 hj).1
  have e : (fl L)[j]? = (fl (L.take k))[j]? := by
    have := congrArg (fun l => (fl l)[j]?) (List.take_append_drop k L).symm
    simp only [fl_append] at this
    rw [this, List.getElem?_append_left hjl]
  rw [fl_length, List.length_take] at hjl
  rw [hn] at h' hjl
  rw [h'.cellAt j (by omega), e, hj]
theorem suf_cells {w : World} {B g n cap k : Nat} {L : List nfd.I} (h : Own3 w B (.slice (some ⟨g, 0, none⟩) n cap) L) (hn : L.length = n) (hk : k ≤ n) : ∀ j u, (fl (L.drop k))[j]? = some u → w.cell? ((⟨g, k * 3, none⟩ : Addr).add j) = some u := fun j u hj => by
  have h' : w.ownsRow B 30 3 (.slice (some ⟨g, 0, none⟩) n cap) L.length (fl L) := h
  rw [Addr.add_lit]
  have hjl : j < (fl (L.drop k)).length := (List.getElem?_eq_some_iff.1 hj).1
  have hlk : (fl (L.take k)).length = k * 3 := by rw [fl_length, List.length_take, hn, Nat.min_eq_left hk]
  have e : (fl L)[k * 3 + j]? = (fl (L.drop k))[j]? := by
    have := congrArg (fun l => (fl l)[k * 3 + j]?) (List.take_append_drop k L).symm
    simp only [fl_append] at this
    rw [this, List.getElem?_append_right (by omega), hlk, Nat.add_sub_cancel_left]
  rw [fl_length, List.length_drop, hn] at hjl
  rw [hn] at h'
  rw [h'.cellAt _ (by omega), e, hj]
set_option maxHeartbeats 4000000 in
set_option maxRecDepth 1000000 in
theorem put_none (Q : Exit → Act → World → Prop) (q s e : Int) (yb : Nat) (W : World) {x0 x1 x2 x3 x4 x6 x7 x8 x9 x12 x13 x14 x15 x16 x17 x18 x19 x20 x21 x22 x23 x24 x25 x26 x27 x28 x29 x30 x31 x32 x33 x34 x35 x36 x37 x38 x39 x40 x41 x42 x43 x44 x45 x46 x47 x48 x49 x50 x51 x52 x53 x54 x55 x56 x57 x58 x59 x60 x61 x62 x63 x64 x65 x66 x67 x68 x69 x70 x71 : Value}
    (hY : W.heap[yb]? = some (.cells #[.int .i64 q, .int .i64 s, .int .i64 e] 30 (0, 0)))
    (h : ∀ v' W' z57 z58 z59 z60 z61 z62 z63 z64 z65 z66 z67 z68, Own3 W' W.heap.size v' ([(q, s, e)]) → Below W.heap.size W W' → Q .normal ⟨List.toArray (x0 :: x1 :: x2 :: x3 :: x4 :: v' :: x6 :: x7 :: x8 :: x9 :: .pointer (some ⟨yb, 0, none⟩) :: .int .i64 0 :: x12 :: x13 :: x14 :: x15 :: x16 :: x17 :: x18 :: x19 :: x20 :: x21 :: x22 :: x23 :: x24 :: x25 :: x26 :: x27 :: x28 :: x29 :: x30 :: x31 :: x32 :: x33 :: x34 :: x35 :: x36 :: x37 :: x38 :: x39 :: x40 :: x41 :: x42 :: x43 :: x44 :: x45 :: x46 :: x47 :: x48 :: x49 :: x50 :: x51 :: x52 :: x53 :: x54 :: x55 :: x56 :: z57 :: z58 :: z59 :: z60 :: z61 :: z62 :: z63 :: z64 :: z65 :: z66 :: z67 :: z68 :: x69 :: x70 :: x71 :: []), []⟩ W') :
    Code.wp Tryz.prog (Code.region 14 #[{ dst := some 57, op := Op.buildSlice 28 0 #[], type := 28, pos := "ref.go:22", after := #[], guard := none }, { dst := some 58, op := Op.move (Operand.tmp 5), type := 28, pos := "ref.go:22", after := #[], guard := none }, { dst := some 59, op := Op.move (Operand.tmp 11), type := 3, pos := "ref.go:22", after := #[], guard := none }, { dst := some 60, op := Op.slice 28 (Operand.tmp 58) none (some (Operand.tmp 59)) none, type := 28, pos := "ref.go:22", after := #[{ on := 1, ground := Ground.data }, { on := 2, ground := Ground.data }], guard := none }, { dst := some 61, op := Op.call { callee := Callee.builtin Builtin.append, args := #[Operand.tmp 57, Operand.tmp 60], argTypes := #[28, 28] }, type := 28, pos := "ref.go:22", after := #[{ on := 0, ground := Ground.data }, { on := 3, ground := Ground.data }], guard := none }, { dst := some 62, op := Op.load 30 (Operand.tmp 10), type := 30, pos := "ref.go:22", after := #[], guard := none }, { dst := some 63, op := Op.buildSlice 28 1 #[(0, Operand.tmp 62)], type := 28, pos := "ref.go:22", after := #[{ on := 5, ground := Ground.data }], guard := none }, { dst := some 64, op := Op.call { callee := Callee.builtin Builtin.append, args := #[Operand.tmp 61, Operand.tmp 63], argTypes := #[28, 28] }, type := 28, pos := "ref.go:22", after := #[{ on := 4, ground := Ground.data }, { on := 6, ground := Ground.data }, { on := 4, ground := Ground.chain }], guard := none }, { dst := some 65, op := Op.move (Operand.tmp 5), type := 28, pos := "ref.go:22", after := #[], guard := none }, { dst := some 66, op := Op.move (Operand.tmp 11), type := 3, pos := "ref.go:22", after := #[], guard := none }, { dst := some 67, op := Op.slice 28 (Operand.tmp 65) (some (Operand.tmp 66)) none none, type := 28, pos := "ref.go:22", after := #[{ on := 8, ground := Ground.data }, { on := 9, ground := Ground.data }], guard := none }, { dst := some 68, op := Op.call { callee := Callee.builtin Builtin.append, args := #[Operand.tmp 64, Operand.tmp 67], argTypes := #[28, 28] }, type := 28, pos := "ref.go:22", after := #[{ on := 7, ground := Ground.data }, { on := 10, ground := Ground.data }, { on := 7, ground := Ground.chain }], guard := none }, { dst := some 5, op := Op.assign (Operand.tmp 68), type := 28, pos := "ref.go:22", after := #[{ on := 11, ground := Ground.data }, { on := 11, ground := Ground.chain }, { on := 0, ground := Ground.phase }, { on := 1, ground := Ground.phase }, { on := 2, ground := Ground.phase }, { on := 3, ground := Ground.phase }, { on := 4, ground := Ground.phase }, { on := 5, ground := Ground.phase }, { on := 6, ground := Ground.phase }, { on := 7, ground := Ground.phase }, { on := 8, ground := Ground.phase }, { on := 9, ground := Ground.phase }, { on := 10, ground := Ground.phase }, { on := 11, ground := Ground.phase }], guard := none }] true) Q ⟨List.toArray (x0 :: x1 :: x2 :: x3 :: x4 :: .slice none 0 0 :: x6 :: x7 :: x8 :: x9 :: .pointer (some ⟨yb, 0, none⟩) :: .int .i64 0 :: x12 :: x13 :: x14 :: x15 :: x16 :: x17 :: x18 :: x19 :: x20 :: x21 :: x22 :: x23 :: x24 :: x25 :: x26 :: x27 :: x28 :: x29 :: x30 :: x31 :: x32 :: x33 :: x34 :: x35 :: x36 :: x37 :: x38 :: x39 :: x40 :: x41 :: x42 :: x43 :: x44 :: x45 :: x46 :: x47 :: x48 :: x49 :: x50 :: x51 :: x52 :: x53 :: x54 :: x55 :: x56 :: x57 :: x58 :: x59 :: x60 :: x61 :: x62 :: x63 :: x64 :: x65 :: x66 :: x67 :: x68 :: x69 :: x70 :: x71 :: []), []⟩ W := by
  have HH : Hid (∀ v' W' z57 z58 z59 z60 z61 z62 z63 z64 z65 z66 z67 z68, Own3 W' W.heap.size v' ([(q, s, e)]) → Below W.heap.size W W' → Q .normal ⟨List.toArray (x0 :: x1 :: x2 :: x3 :: x4 :: v' :: x6 :: x7 :: x8 :: x9 :: .pointer (some ⟨yb, 0, none⟩) :: .int .i64 0 :: x12 :: x13 :: x14 :: x15 :: x16 :: x17 :: x18 :: x19 :: x20 :: x21 :: x22 :: x23 :: x24 :: x25 :: x26 :: x27 :: x28 :: x29 :: x30 :: x31 :: x32 :: x33 :: x34 :: x35 :: x36 :: x37 :: x38 :: x39 :: x40 :: x41 :: x42 :: x43 :: x44 :: x45 :: x46 :: x47 :: x48 :: x49 :: x50 :: x51 :: x52 :: x53 :: x54 :: x55 :: x56 :: z57 :: z58 :: z59 :: z60 :: z61 :: z62 :: z63 :: z64 :: z65 :: z66 :: z67 :: z68 :: x69 :: x70 :: x71 :: []), []⟩ W') := h
  have hyl : yb < W.heap.size := (Array.getElem?_eq_some_iff.1 hY).1
  have HYC : Hid (∀ X, Below W.heap.size W X → X.cell? ⟨yb, 0, none⟩ = some (.int .i64 q) ∧ X.cell? ⟨yb, 1, none⟩ = some (.int .i64 s) ∧ X.cell? ⟨yb, 2, none⟩ = some (.int .i64 e)) := fun X hb => by
    have hY' := (hb.block yb hyl).trans hY
    have y0 := cell_of_row X yb 0 _ _ _ hY'
    have y1 := cell_of_row X yb 1 _ _ _ hY'
    have y2 := cell_of_row X yb 2 _ _ _ hY'
    simp at y0 y1 y2
    exact ⟨y0, y1, y2⟩
  have HB0 : Hid (Below W.heap.size W W.drew) := (Below.refl _ W).drew
  obtain ⟨y0, y1, y2⟩ := HYC.out W (Below.refl _ W)
  clear h hY
  refine wp_region_noPanic ?_
  refine wp_region_held_drew (S := fun w' => w'.cell? ⟨yb, 0, none⟩ = some (.int .i64 q) ∧ w'.cell? ⟨yb, 1, none⟩ = some (.int .i64 s) ∧ w'.cell? ⟨yb, 2, none⟩ = some (.int .i64 e)) (by kernel_rfl) ?_ (fun hHeld => ?_)
  · exact ⟨y0, y1, y2⟩
  generalize W.drew = X0 at *
  clear y0 y1 y2
  refine wpAnyH_take (i := 1) (oi := ({ dst := some 58, op := Op.move (Operand.tmp 5), type := 28, pos := "ref.go:22", after := #[], guard := none } : Oper)) (v := ?_) rfl (by kernel_rfl) (by kernel_rfl) (by kernel_rfl) (fun _ _ _ h => h) (Or.inl ⟨by rfl, ?_⟩) (by assumption) ?_
  rotate_left
  · (intro w' hSw; (try dsimp only at hSw); go_simp; try with_reducible rfl)
  try simp only [Act.put, List.setIfInBounds_toArray, List.set_cons_zero, List.set_cons_succ]
  refine wpAnyH_take (i := 2) (oi := ({ dst := some 59, op := Op.move (Operand.tmp 11), type := 3, pos := "ref.go:22", after := #[], guard := none } : Oper)) (v := ?_) rfl (by kernel_rfl) (by kernel_rfl) (by kernel_rfl) (fun _ _ _ h => h) (Or.inl ⟨by rfl, ?_⟩) (by assumption) ?_
  rotate_left
  · (intro w' hSw; (try dsimp only at hSw); go_simp; try with_reducible rfl)
  try simp only [Act.put, List.setIfInBounds_toArray, List.set_cons_zero, List.set_cons_succ]
  refine wpAnyH_take (i := 3) (oi := ({ dst := some 60, op := Op.slice 28 (Operand.tmp 58) none (some (Operand.tmp 59)) none, type := 28, pos := "ref.go:22", after := #[{ on := 1, ground := Ground.data }, { on := 2, ground := Ground.data }], guard := none } : Oper)) (v := ?_) rfl (by kernel_rfl) (by kernel_rfl) (by kernel_rfl) (fun _ _ _ h => h) (Or.inl ⟨by rfl, ?_⟩) (by assumption) ?_
  rotate_left
  · (intro w' hSw; (try dsimp only at hSw); go_simp; try with_reducible rfl)
  try simp only [Act.put, List.setIfInBounds_toArray, List.set_cons_zero, List.set_cons_succ]
  refine wpAnyH_take (i := 5) (oi := ({ dst := some 62, op := Op.load 30 (Operand.tmp 10), type := 30, pos := "ref.go:22", after := #[], guard := none } : Oper)) (v := ?_) rfl (by kernel_rfl) (by kernel_rfl) (by kernel_rfl) (fun _ _ _ h => h) (Or.inl ⟨by rfl, ?_⟩) (by assumption) ?_
  rotate_left
  · (intro w' hSw; (try dsimp only at hSw); go_simp; try with_reducible rfl)
  try simp only [Act.put, List.setIfInBounds_toArray, List.set_cons_zero, List.set_cons_succ]
  refine wpAnyH_take (i := 8) (oi := ({ dst := some 65, op := Op.move (Operand.tmp 5), type := 28, pos := "ref.go:22", after := #[], guard := none } : Oper)) (v := ?_) rfl (by kernel_rfl) (by kernel_rfl) (by kernel_rfl) (fun _ _ _ h => h) (Or.inl ⟨by rfl, ?_⟩) (by assumption) ?_
  rotate_left
  · (intro w' hSw; (try dsimp only at hSw); go_simp; try with_reducible rfl)
  try simp only [Act.put, List.setIfInBounds_toArray, List.set_cons_zero, List.set_cons_succ]
  refine wpAnyH_take (i := 9) (oi := ({ dst := some 66, op := Op.move (Operand.tmp 11), type := 3, pos := "ref.go:22", after := #[], guard := none } : Oper)) (v := ?_) rfl (by kernel_rfl) (by kernel_rfl) (by kernel_rfl) (fun _ _ _ h => h) (Or.inl ⟨by rfl, ?_⟩) (by assumption) ?_
  rotate_left
  · (intro w' hSw; (try dsimp only at hSw); go_simp; try with_reducible rfl)
  try simp only [Act.put, List.setIfInBounds_toArray, List.set_cons_zero, List.set_cons_succ]
  refine wpAnyH_take (i := 10) (oi := ({ dst := some 67, op := Op.slice 28 (Operand.tmp 65) (some (Operand.tmp 66)) none none, type := 28, pos := "ref.go:22", after := #[{ on := 8, ground := Ground.data }, { on := 9, ground := Ground.data }], guard := none } : Oper)) (v := ?_) rfl (by kernel_rfl) (by kernel_rfl) (by kernel_rfl) (fun _ _ _ h => h) (Or.inl ⟨by rfl, ?_⟩) (by assumption) ?_
  rotate_left
  · (intro w' hSw; (try dsimp only at hSw); go_simp; try with_reducible rfl)
  try simp only [Act.put, List.setIfInBounds_toArray, List.set_cons_zero, List.set_cons_succ]
  refine wpAnyH_ready (rs := [0, 6]) (by kernel_rfl) (by simp) ?_
  refine AllReadyH.cons (o := ({ dst := some 57, op := Op.buildSlice 28 0 #[], type := 28, pos := "ref.go:22", after := #[], guard := none } : Oper)) rfl (fun K hK => ?_) ?_
  · have bA : Below X0.heap.size X0 (X0.alloc (.cells #[] 30)) := (Below.refl _ X0).alloc (Nat.le_refl _) _
    have HB1 : Hid (Below W.heap.size W (X0.alloc (.cells #[] 30))) := HB0.out.trans (bA.mono HB0.out.size)
    have OW1 : Hid (Own3 (X0.alloc (.cells #[] 30)) W.heap.size (.slice (some ⟨X0.heap.size, 0, none⟩) 0 0) []) := World.ownsRow_lit (base := W.heap.size) (e := 30) (size := 3) X0 #[] 0 HB0.out.size (by unfold maxLen; omega) rfl
    go_simp
    obtain ⟨k1, hk1⟩ : ∃ z, X0.heap.size = z := ⟨_, rfl⟩
    try rw [hk1] at OW1
    try rw [hk1]
    clear bA
    generalize X0.alloc (.cells #[] 30) = X1 at *
    refine hK.out _ _ ?_ (fun hHeld2 => ?_)
    · exact HYC.out X1 HB1.out
    clear hK K hHeld
    have hHeld := hHeld2
    clear hHeld2
    try simp only [Act.put, List.setIfInBounds_toArray, List.set_cons_zero, List.set_cons_succ]
    refine wpAnyH_ready (rs := [4, 6]) (by kernel_rfl) (by simp) ?_
    refine AllReadyH.cons (o := ({ dst := some 61, op := Op.call { callee := Callee.builtin Builtin.append, args := #[Operand.tmp 57, Operand.tmp 60], argTypes := #[28, 28] }, type := 28, pos := "ref.go:22", after := #[{ on := 0, ground := Ground.data }, { on := 3, ground := Ground.data }], guard := none } : Oper)) rfl (fun K hK => ?_) ?_
    · refine step_app rfl _ _ rfl W.heap.size (.slice (some ⟨k1, 0, none⟩) 0 0) ([]) rfl OW1.out _ _ _ ([]) rfl ?cl ?cn ?cw ?cz HB1.out.size ?_
      case cl => rfl
      case cn => exact fun _ => ⟨rfl, rfl⟩
      case cw => intro ad e9; cases e9
      case cz => simp
      intro v2 X2 ow hgr
      have HB2 : Hid (Below W.heap.size W X2) := Below.grown HB1.out hgr HB1.out.size (fun k e9 => (OW1.out.lt _ e9).1)
      have OW2 : Hid (Own3 X2 W.heap.size v2 (([]) ++ ([]))) := ow
      clear ow hgr
      refine hK.out _ _ ?_ (fun hHeld2 => ?_)
      · exact HYC.out X2 HB2.out
      clear hK K hHeld
      have hHeld := hHeld2
      clear hHeld2
      try simp only [Act.put, List.setIfInBounds_toArray, List.set_cons_zero, List.set_cons_succ]
      refine wpAnyH_ready (rs := [6]) (by kernel_rfl) (by simp) ?_
      refine AllReadyH.cons (o := ({ dst := some 63, op := Op.buildSlice 28 1 #[(0, Operand.tmp 62)], type := 28, pos := "ref.go:22", after := #[{ on := 5, ground := Ground.data }], guard := none } : Oper)) rfl (fun K hK => ?_) ?_
      · have bA : Below X2.heap.size X2 (X2.alloc (.cells #[.int .i64 q, .int .i64 s, .int .i64 e] 30)) := (Below.refl _ X2).alloc (Nat.le_refl _) _
        have HB3 : Hid (Below W.heap.size W (X2.alloc (.cells #[.int .i64 q, .int .i64 s, .int .i64 e] 30))) := HB2.out.trans (bA.mono HB2.out.size)
        have CY3 : Hid (∀ j u, (fl [(q, s, e)])[j]? = some u → (X2.alloc (.cells #[.int .i64 q, .int .i64 s, .int .i64 e] 30)).cell? ((⟨X2.heap.size, 0, none⟩ : Addr).add j) = some u) := fun j u hj => one3_new X2 _ _ _ _ j u hj
        have OW3 : Hid (Own3 (X2.alloc (.cells #[.int .i64 q, .int .i64 s, .int .i64 e] 30)) W.heap.size v2 (([]) ++ ([]))) := OW2.out.below bA
        go_simp
        obtain ⟨k3, hk3⟩ : ∃ z, X2.heap.size = z := ⟨_, rfl⟩
        try rw [hk3] at CY3
        try rw [hk3]
        clear bA
        generalize X2.alloc (.cells #[.int .i64 q, .int .i64 s, .int .i64 e] 30) = X3 at *
        refine hK.out _ _ ?_ (fun hHeld2 => ?_)
        · exact HYC.out X3 HB3.out
        clear hK K hHeld
        have hHeld := hHeld2
        clear hHeld2
        try simp only [Act.put, List.setIfInBounds_toArray, List.set_cons_zero, List.set_cons_succ]
        refine wpAnyH_ready (rs := [7]) (by kernel_rfl) (by simp) ?_
        refine AllReadyH.cons (o := ({ dst := some 64, op := Op.call { callee := Callee.builtin Builtin.append, args := #[Operand.tmp 61, Operand.tmp 63], argTypes := #[28, 28] }, type := 28, pos := "ref.go:22", after := #[{ on := 4, ground := Ground.data }, { on := 6, ground := Ground.data }, { on := 4, ground := Ground.chain }], guard := none } : Oper)) rfl (fun K hK => ?_) ?_
        · refine step_app rfl _ _ rfl W.heap.size v2 (([]) ++ ([])) rfl OW3.out _ _ _ ([(q, s, e)]) rfl ?cl ?cn ?cw ?cz HB3.out.size ?_
          case cl => rfl
          case cn => intro e9; cases e9
          case cw => intro ad e9; cases e9; exact CY3.out
          case cz => simp
          intro v4 X4 ow hgr
          have HB4 : Hid (Below W.heap.size W X4) := Below.grown HB3.out hgr HB3.out.size (fun k e9 => (OW3.out.lt _ e9).1)
          have OW4 : Hid (Own3 X4 W.heap.size v4 ((([]) ++ ([])) ++ ([(q, s, e)]))) := ow
          clear ow hgr
          refine hK.out _ _ ?_ (fun hHeld2 => ?_)
          · exact HYC.out X4 HB4.out
          clear hK K hHeld
          have hHeld := hHeld2
          clear hHeld2
          try simp only [Act.put, List.setIfInBounds_toArray, List.set_cons_zero, List.set_cons_succ]
          refine wpAnyH_ready (rs := [11]) (by kernel_rfl) (by simp) ?_
          refine AllReadyH.cons (o := ({ dst := some 68, op := Op.call { callee := Callee.builtin Builtin.append, args := #[Operand.tmp 64, Operand.tmp 67], argTypes := #[28, 28] }, type := 28, pos := "ref.go:22", after := #[{ on := 7, ground := Ground.data }, { on := 10, ground := Ground.data }, { on := 7, ground := Ground.chain }], guard := none } : Oper)) rfl (fun K hK => ?_) ?_
          · refine step_app rfl _ _ rfl W.heap.size v4 ((([]) ++ ([])) ++ ([(q, s, e)])) rfl OW4.out _ _ _ ([]) rfl ?cl ?cn ?cw ?cz HB4.out.size ?_
            case cl => rfl
            case cn => exact fun _ => ⟨rfl, rfl⟩
            case cw => intro ad e9; cases e9
            case cz => simp
            intro v5 X5 ow hgr
            have HB5 : Hid (Below W.heap.size W X5) := Below.grown HB4.out hgr HB4.out.size (fun k e9 => (OW4.out.lt _ e9).1)
            have OW5 : Hid (Own3 X5 W.heap.size v5 (((([]) ++ ([])) ++ ([(q, s, e)])) ++ ([]))) := ow
            clear ow hgr
            refine hK.out _ _ ?_ (fun hHeld2 => ?_)
            · exact HYC.out X5 HB5.out
            clear hK K hHeld
            have hHeld := hHeld2
            clear hHeld2
            try simp only [Act.put, List.setIfInBounds_toArray, List.set_cons_zero, List.set_cons_succ]
            refine wpAnyH_ready (rs := [12]) (by kernel_rfl) (by simp) ?_
            refine AllReadyH.cons (o := ({ dst := some 5, op := Op.assign (Operand.tmp 68), type := 28, pos := "ref.go:22", after := #[{ on := 11, ground := Ground.data }, { on := 11, ground := Ground.chain }, { on := 0, ground := Ground.phase }, { on := 1, ground := Ground.phase }, { on := 2, ground := Ground.phase }, { on := 3, ground := Ground.phase }, { on := 4, ground := Ground.phase }, { on := 5, ground := Ground.phase }, { on := 6, ground := Ground.phase }, { on := 7, ground := Ground.phase }, { on := 8, ground := Ground.phase }, { on := 9, ground := Ground.phase }, { on := 10, ground := Ground.phase }, { on := 11, ground := Ground.phase }], guard := none } : Oper)) rfl (fun K hK => ?_) ?_
            · go_simp
              refine hK.out _ _ ?_ (fun hHeld2 => ?_)
              · exact HYC.out X5 HB5.out
              clear hK K hHeld hHeld2
              try simp only [Act.put, List.setIfInBounds_toArray, List.set_cons_zero, List.set_cons_succ]
              refine wpAnyH_done (by kernel_rfl) ?_ _
              refine NoPanic.normal ?_
              exact HH.out v5 X5 _ _ _ _ _ _ _ _ _ _ _ _ (by have h9 := OW5.out; simpa using h9) HB5.out
            exact AllReadyH.nil
          exact AllReadyH.nil
        exact AllReadyH.nil
      exact AllReadyH.nil
    refine AllReadyH.cons (o := ({ dst := some 63, op := Op.buildSlice 28 1 #[(0, Operand.tmp 62)], type := 28, pos := "ref.go:22", after := #[{ on := 5, ground := Ground.data }], guard := none } : Oper)) rfl (fun K hK => ?_) ?_
    · have bA : Below X1.heap.size X1 (X1.alloc (.cells #[.int .i64 q, .int .i64 s, .int .i64 e] 30)) := (Below.refl _ X1).alloc (Nat.le_refl _) _
      have HB2 : Hid (Below W.heap.size W (X1.alloc (.cells #[.int .i64 q, .int .i64 s, .int .i64 e] 30))) := HB1.out.trans (bA.mono HB1.out.size)
      have CY2 : Hid (∀ j u, (fl [(q, s, e)])[j]? = some u → (X1.alloc (.cells #[.int .i64 q, .int .i64 s, .int .i64 e] 30)).cell? ((⟨X1.heap.size, 0, none⟩ : Addr).add j) = some u) := fun j u hj => one3_new X1 _ _ _ _ j u hj
      have OW2 : Hid (Own3 (X1.alloc (.cells #[.int .i64 q, .int .i64 s, .int .i64 e] 30)) W.heap.size (.slice (some ⟨k1, 0, none⟩) 0 0) ([])) := OW1.out.below bA
      go_simp
      obtain ⟨k2, hk2⟩ : ∃ z, X1.heap.size = z := ⟨_, rfl⟩
      have hne2 : k1 ≠ k2 := by have h9 := OW1.out.lt _ rfl; rw [hk2] at h9; exact fun h7 => by rw [h7] at h9; exact Nat.lt_irrefl _ h9.2
      try rw [hk2] at CY2
      try rw [hk2]
      clear bA
      generalize X1.alloc (.cells #[.int .i64 q, .int .i64 s, .int .i64 e] 30) = X2 at *
      refine hK.out _ _ ?_ (fun hHeld2 => ?_)
      · exact HYC.out X2 HB2.out
      clear hK K hHeld
      have hHeld := hHeld2
      clear hHeld2
      try simp only [Act.put, List.setIfInBounds_toArray, List.set_cons_zero, List.set_cons_succ]
      refine wpAnyH_ready (rs := [4]) (by kernel_rfl) (by simp) ?_
      refine AllReadyH.cons (o := ({ dst := some 61, op := Op.call { callee := Callee.builtin Builtin.append, args := #[Operand.tmp 57, Operand.tmp 60], argTypes := #[28, 28] }, type := 28, pos := "ref.go:22", after := #[{ on := 0, ground := Ground.data }, { on := 3, ground := Ground.data }], guard := none } : Oper)) rfl (fun K hK => ?_) ?_
      · refine step_app rfl _ _ rfl W.heap.size (.slice (some ⟨k1, 0, none⟩) 0 0) ([]) rfl OW2.out _ _ _ ([]) rfl ?cl ?cn ?cw ?cz HB2.out.size ?_
        case cl => rfl
        case cn => exact fun _ => ⟨rfl, rfl⟩
        case cw => intro ad e9; cases e9
        case cz => simp
        intro v3 X3 ow hgr
        have HB3 : Hid (Below W.heap.size W X3) := Below.grown HB2.out hgr HB2.out.size (fun k e9 => (OW2.out.lt _ e9).1)
        have OW3 : Hid (Own3 X3 W.heap.size v3 (([]) ++ ([]))) := ow
        have CY3 : Hid (∀ j u, (fl [(q, s, e)])[j]? = some u → X3.cell? ((⟨k2, 0, none⟩ : Addr).add j) = some u) := fun j u hj => hgr.cell (CY2.out j u hj) (by simp only [Addr.add_lit, Value.ownBlock]; intro h9; cases h9; exact hne2 rfl)
        clear ow hgr
        refine hK.out _ _ ?_ (fun hHeld2 => ?_)
        · exact HYC.out X3 HB3.out
        clear hK K hHeld
        have hHeld := hHeld2
        clear hHeld2
        try simp only [Act.put, List.setIfInBounds_toArray, List.set_cons_zero, List.set_cons_succ]
        refine wpAnyH_ready (rs := [7]) (by kernel_rfl) (by simp) ?_
        refine AllReadyH.cons (o := ({ dst := some 64, op := Op.call { callee := Callee.builtin Builtin.append, args := #[Operand.tmp 61, Operand.tmp 63], argTypes := #[28, 28] }, type := 28, pos := "ref.go:22", after := #[{ on := 4, ground := Ground.data }, { on := 6, ground := Ground.data }, { on := 4, ground := Ground.chain }], guard := none } : Oper)) rfl (fun K hK => ?_) ?_
        · refine step_app rfl _ _ rfl W.heap.size v3 (([]) ++ ([])) rfl OW3.out _ _ _ ([(q, s, e)]) rfl ?cl ?cn ?cw ?cz HB3.out.size ?_
          case cl => rfl
          case cn => intro e9; cases e9
          case cw => intro ad e9; cases e9; exact CY3.out
          case cz => simp
          intro v4 X4 ow hgr
          have HB4 : Hid (Below W.heap.size W X4) := Below.grown HB3.out hgr HB3.out.size (fun k e9 => (OW3.out.lt _ e9).1)
          have OW4 : Hid (Own3 X4 W.heap.size v4 ((([]) ++ ([])) ++ ([(q, s, e)]))) := ow
          clear ow hgr
          refine hK.out _ _ ?_ (fun hHeld2 => ?_)
          · exact HYC.out X4 HB4.out
          clear hK K hHeld
          have hHeld := hHeld2
          clear hHeld2
          try simp only [Act.put, List.setIfInBounds_toArray, List.set_cons_zero, List.set_cons_succ]
          refine wpAnyH_ready (rs := [11]) (by kernel_rfl) (by simp) ?_
          refine AllReadyH.cons (o := ({ dst := some 68, op := Op.call { callee := Callee.builtin Builtin.append, args := #[Operand.tmp 64, Operand.tmp 67], argTypes := #[28, 28] }, type := 28, pos := "ref.go:22", after := #[{ on := 7, ground := Ground.data }, { on := 10, ground := Ground.data }, { on := 7, ground := Ground.chain }], guard := none } : Oper)) rfl (fun K hK => ?_) ?_
          · refine step_app rfl _ _ rfl W.heap.size v4 ((([]) ++ ([])) ++ ([(q, s, e)])) rfl OW4.out _ _ _ ([]) rfl ?cl ?cn ?cw ?cz HB4.out.size ?_
            case cl => rfl
            case cn => exact fun _ => ⟨rfl, rfl⟩
            case cw => intro ad e9; cases e9
            case cz => simp
            intro v5 X5 ow hgr
            have HB5 : Hid (Below W.heap.size W X5) := Below.grown HB4.out hgr HB4.out.size (fun k e9 => (OW4.out.lt _ e9).1)
            have OW5 : Hid (Own3 X5 W.heap.size v5 (((([]) ++ ([])) ++ ([(q, s, e)])) ++ ([]))) := ow
            clear ow hgr
            refine hK.out _ _ ?_ (fun hHeld2 => ?_)
            · exact HYC.out X5 HB5.out
            clear hK K hHeld
            have hHeld := hHeld2
            clear hHeld2
            try simp only [Act.put, List.setIfInBounds_toArray, List.set_cons_zero, List.set_cons_succ]
            refine wpAnyH_ready (rs := [12]) (by kernel_rfl) (by simp) ?_
            refine AllReadyH.cons (o := ({ dst := some 5, op := Op.assign (Operand.tmp 68), type := 28, pos := "ref.go:22", after := #[{ on := 11, ground := Ground.data }, { on := 11, ground := Ground.chain }, { on := 0, ground := Ground.phase }, { on := 1, ground := Ground.phase }, { on := 2, ground := Ground.phase }, { on := 3, ground := Ground.phase }, { on := 4, ground := Ground.phase }, { on := 5, ground := Ground.phase }, { on := 6, ground := Ground.phase }, { on := 7, ground := Ground.phase }, { on := 8, ground := Ground.phase }, { on := 9, ground := Ground.phase }, { on := 10, ground := Ground.phase }, { on := 11, ground := Ground.phase }], guard := none } : Oper)) rfl (fun K hK => ?_) ?_
            · go_simp
              refine hK.out _ _ ?_ (fun hHeld2 => ?_)
              · exact HYC.out X5 HB5.out
              clear hK K hHeld hHeld2
              try simp only [Act.put, List.setIfInBounds_toArray, List.set_cons_zero, List.set_cons_succ]
              refine wpAnyH_done (by kernel_rfl) ?_ _
              refine NoPanic.normal ?_
              exact HH.out v5 X5 _ _ _ _ _ _ _ _ _ _ _ _ (by have h9 := OW5.out; simpa using h9) HB5.out
            exact AllReadyH.nil
          exact AllReadyH.nil
        exact AllReadyH.nil
      exact AllReadyH.nil
    exact AllReadyH.nil
  refine AllReadyH.cons (o := ({ dst := some 63, op := Op.buildSlice 28 1 #[(0, Operand.tmp 62)], type := 28, pos := "ref.go:22", after := #[{ on := 5, ground := Ground.data }], guard := none } : Oper)) rfl (fun K hK => ?_) ?_
  · have bA : Below X0.heap.size X0 (X0.alloc (.cells #[.int .i64 q, .int .i64 s, .int .i64 e] 30)) := (Below.refl _ X0).alloc (Nat.le_refl _) _
    have HB1 : Hid (Below W.heap.size W (X0.alloc (.cells #[.int .i64 q, .int .i64 s, .int .i64 e] 30))) := HB0.out.trans (bA.mono HB0.out.size)
    have CY1 : Hid (∀ j u, (fl [(q, s, e)])[j]? = some u → (X0.alloc (.cells #[.int .i64 q, .int .i64 s, .int .i64 e] 30)).cell? ((⟨X0.heap.size, 0, none⟩ : Addr).add j) = some u) := fun j u hj => one3_new X0 _ _ _ _ j u hj
    go_simp
    obtain ⟨k1, hk1⟩ : ∃ z, X0.heap.size = z := ⟨_, rfl⟩
    try rw [hk1] at CY1
    try rw [hk1]
    clear bA
    generalize X0.alloc (.cells #[.int .i64 q, .int .i64 s, .int .i64 e] 30) = X1 at *
    refine hK.out _ _ ?_ (fun hHeld2 => ?_)
    · exact HYC.out X1 HB1.out
    clear hK K hHeld
    have hHeld := hHeld2
    clear hHeld2
    try simp only [Act.put, List.setIfInBounds_toArray, List.set_cons_zero, List.set_cons_succ]
    refine wpAnyH_ready (rs := [0]) (by kernel_rfl) (by simp) ?_
    refine AllReadyH.cons (o := ({ dst := some 57, op := Op.buildSlice 28 0 #[], type := 28, pos := "ref.go:22", after := #[], guard := none } : Oper)) rfl (fun K hK => ?_) ?_
    · have bA : Below X1.heap.size X1 (X1.alloc (.cells #[] 30)) := (Below.refl _ X1).alloc (Nat.le_refl _) _
      have HB2 : Hid (Below W.heap.size W (X1.alloc (.cells #[] 30))) := HB1.out.trans (bA.mono HB1.out.size)
      have OW2 : Hid (Own3 (X1.alloc (.cells #[] 30)) W.heap.size (.slice (some ⟨X1.heap.size, 0, none⟩) 0 0) []) := World.ownsRow_lit (base := W.heap.size) (e := 30) (size := 3) X1 #[] 0 HB1.out.size (by unfold maxLen; omega) rfl
      have CY2 : Hid (∀ j u, (fl [(q, s, e)])[j]? = some u → (X1.alloc (.cells #[] 30)).cell? ((⟨k1, 0, none⟩ : Addr).add j) = some u) := fun j u hj => by have h9 := CY1.out j u hj; exact (bA.cell (World.block_lt_of_cell? X1 _ h9)).trans h9
      go_simp
      obtain ⟨k2, hk2⟩ : ∃ z, X1.heap.size = z := ⟨_, rfl⟩
      have hne2 : k2 ≠ k1 := by have h9 := CY1.out 0 (.int .i64 q) rfl; rw [Addr.add_lit] at h9; have h8 : k1 < X1.heap.size := World.block_lt_of_cell? X1 _ h9; omega
      try rw [hk2] at OW2
      try rw [hk2]
      clear bA
      generalize X1.alloc (.cells #[] 30) = X2 at *
      refine hK.out _ _ ?_ (fun hHeld2 => ?_)
      · exact HYC.out X2 HB2.out
      clear hK K hHeld
      have hHeld := hHeld2
      clear hHeld2
      try simp only [Act.put, List.setIfInBounds_toArray, List.set_cons_zero, List.set_cons_succ]
      refine wpAnyH_ready (rs := [4]) (by kernel_rfl) (by simp) ?_
      refine AllReadyH.cons (o := ({ dst := some 61, op := Op.call { callee := Callee.builtin Builtin.append, args := #[Operand.tmp 57, Operand.tmp 60], argTypes := #[28, 28] }, type := 28, pos := "ref.go:22", after := #[{ on := 0, ground := Ground.data }, { on := 3, ground := Ground.data }], guard := none } : Oper)) rfl (fun K hK => ?_) ?_
      · refine step_app rfl _ _ rfl W.heap.size (.slice (some ⟨k2, 0, none⟩) 0 0) ([]) rfl OW2.out _ _ _ ([]) rfl ?cl ?cn ?cw ?cz HB2.out.size ?_
        case cl => rfl
        case cn => exact fun _ => ⟨rfl, rfl⟩
        case cw => intro ad e9; cases e9
        case cz => simp
        intro v3 X3 ow hgr
        have HB3 : Hid (Below W.heap.size W X3) := Below.grown HB2.out hgr HB2.out.size (fun k e9 => (OW2.out.lt _ e9).1)
        have OW3 : Hid (Own3 X3 W.heap.size v3 (([]) ++ ([]))) := ow
        have CY3 : Hid (∀ j u, (fl [(q, s, e)])[j]? = some u → X3.cell? ((⟨k1, 0, none⟩ : Addr).add j) = some u) := fun j u hj => hgr.cell (CY2.out j u hj) (by simp only [Addr.add_lit, Value.ownBlock]; intro h9; cases h9; exact hne2 rfl)
        clear ow hgr
        refine hK.out _ _ ?_ (fun hHeld2 => ?_)
        · exact HYC.out X3 HB3.out
        clear hK K hHeld
        have hHeld := hHeld2
        clear hHeld2
        try simp only [Act.put, List.setIfInBounds_toArray, List.set_cons_zero, List.set_cons_succ]
        refine wpAnyH_ready (rs := [7]) (by kernel_rfl) (by simp) ?_
        refine AllReadyH.cons (o := ({ dst := some 64, op := Op.call { callee := Callee.builtin Builtin.append, args := #[Operand.tmp 61, Operand.tmp 63], argTypes := #[28, 28] }, type := 28, pos := "ref.go:22", after := #[{ on := 4, ground := Ground.data }, { on := 6, ground := Ground.data }, { on := 4, ground := Ground.chain }], guard := none } : Oper)) rfl (fun K hK => ?_) ?_
        · refine step_app rfl _ _ rfl W.heap.size v3 (([]) ++ ([])) rfl OW3.out _ _ _ ([(q, s, e)]) rfl ?cl ?cn ?cw ?cz HB3.out.size ?_
          case cl => rfl
          case cn => intro e9; cases e9
          case cw => intro ad e9; cases e9; exact CY3.out
          case cz => simp
          intro v4 X4 ow hgr
          have HB4 : Hid (Below W.heap.size W X4) := Below.grown HB3.out hgr HB3.out.size (fun k e9 => (OW3.out.lt _ e9).1)
          have OW4 : Hid (Own3 X4 W.heap.size v4 ((([]) ++ ([])) ++ ([(q, s, e)]))) := ow
          clear ow hgr
          refine hK.out _ _ ?_ (fun hHeld2 => ?_)
          · exact HYC.out X4 HB4.out
          clear hK K hHeld
          have hHeld := hHeld2
          clear hHeld2
          try simp only [Act.put, List.setIfInBounds_toArray, List.set_cons_zero, List.set_cons_succ]
          refine wpAnyH_ready (rs := [11]) (by kernel_rfl) (by simp) ?_
          refine AllReadyH.cons (o := ({ dst := some 68, op := Op.call { callee := Callee.builtin Builtin.append, args := #[Operand.tmp 64, Operand.tmp 67], argTypes := #[28, 28] }, type := 28, pos := "ref.go:22", after := #[{ on := 7, ground := Ground.data }, { on := 10, ground := Ground.data }, { on := 7, ground := Ground.chain }], guard := none } : Oper)) rfl (fun K hK => ?_) ?_
          · refine step_app rfl _ _ rfl W.heap.size v4 ((([]) ++ ([])) ++ ([(q, s, e)])) rfl OW4.out _ _ _ ([]) rfl ?cl ?cn ?cw ?cz HB4.out.size ?_
            case cl => rfl
            case cn => exact fun _ => ⟨rfl, rfl⟩
            case cw => intro ad e9; cases e9
            case cz => simp
            intro v5 X5 ow hgr
            have HB5 : Hid (Below W.heap.size W X5) := Below.grown HB4.out hgr HB4.out.size (fun k e9 => (OW4.out.lt _ e9).1)
            have OW5 : Hid (Own3 X5 W.heap.size v5 (((([]) ++ ([])) ++ ([(q, s, e)])) ++ ([]))) := ow
            clear ow hgr
            refine hK.out _ _ ?_ (fun hHeld2 => ?_)
            · exact HYC.out X5 HB5.out
            clear hK K hHeld
            have hHeld := hHeld2
            clear hHeld2
            try simp only [Act.put, List.setIfInBounds_toArray, List.set_cons_zero, List.set_cons_succ]
            refine wpAnyH_ready (rs := [12]) (by kernel_rfl) (by simp) ?_
            refine AllReadyH.cons (o := ({ dst := some 5, op := Op.assign (Operand.tmp 68), type := 28, pos := "ref.go:22", after := #[{ on := 11, ground := Ground.data }, { on := 11, ground := Ground.chain }, { on := 0, ground := Ground.phase }, { on := 1, ground := Ground.phase }, { on := 2, ground := Ground.phase }, { on := 3, ground := Ground.phase }, { on := 4, ground := Ground.phase }, { on := 5, ground := Ground.phase }, { on := 6, ground := Ground.phase }, { on := 7, ground := Ground.phase }, { on := 8, ground := Ground.phase }, { on := 9, ground := Ground.phase }, { on := 10, ground := Ground.phase }, { on := 11, ground := Ground.phase }], guard := none } : Oper)) rfl (fun K hK => ?_) ?_
            · go_simp
              refine hK.out _ _ ?_ (fun hHeld2 => ?_)
              · exact HYC.out X5 HB5.out
              clear hK K hHeld hHeld2
              try simp only [Act.put, List.setIfInBounds_toArray, List.set_cons_zero, List.set_cons_succ]
              refine wpAnyH_done (by kernel_rfl) ?_ _
              refine NoPanic.normal ?_
              exact HH.out v5 X5 _ _ _ _ _ _ _ _ _ _ _ _ (by have h9 := OW5.out; simpa using h9) HB5.out
            exact AllReadyH.nil
          exact AllReadyH.nil
        exact AllReadyH.nil
      exact AllReadyH.nil
    exact AllReadyH.nil
  exact AllReadyH.nil
set_option maxHeartbeats 4000000 in
set_option maxRecDepth 1000000 in
theorem put_some (Q : Exit → Act → World → Prop) (q s e : Int) (OUT : List nfd.I) (g n yc yb at' B : Nat) (W : World) {x0 x1 x2 x3 x4 x6 x7 x8 x9 x12 x13 x14 x15 x16 x17 x18 x19 x20 x21 x22 x23 x24 x25 x26 x27 x28 x29 x30 x31 x32 x33 x34 x35 x36 x37 x38 x39 x40 x41 x42 x43 x44 x45 x46 x47 x48 x49 x50 x51 x52 x53 x54 x55 x56 x57 x58 x59 x60 x61 x62 x63 x64 x65 x66 x67 x68 x69 x70 x71 : Value}
    (hO : Own3 W B (.slice (some ⟨g, 0, none⟩) n yc) OUT) (hn : OUT.length = n) (hat : at' ≤ n) (hn9 : n ≤ 19000) (hnc : n ≤ yc)  (hcm : yc ≤ 9223372036854775807)
    (hY : W.heap[yb]? = some (.cells #[.int .i64 q, .int .i64 s, .int .i64 e] 30 (0, 0)))
    (h : ∀ v' W' z57 z58 z59 z60 z61 z62 z63 z64 z65 z66 z67 z68, Own3 W' W.heap.size v' (OUT.take at' ++ (q, s, e) :: OUT.drop at') → Below W.heap.size W W' → Q .normal ⟨List.toArray (x0 :: x1 :: x2 :: x3 :: x4 :: v' :: x6 :: x7 :: x8 :: x9 :: .pointer (some ⟨yb, 0, none⟩) :: .int .i64 at' :: x12 :: x13 :: x14 :: x15 :: x16 :: x17 :: x18 :: x19 :: x20 :: x21 :: x22 :: x23 :: x24 :: x25 :: x26 :: x27 :: x28 :: x29 :: x30 :: x31 :: x32 :: x33 :: x34 :: x35 :: x36 :: x37 :: x38 :: x39 :: x40 :: x41 :: x42 :: x43 :: x44 :: x45 :: x46 :: x47 :: x48 :: x49 :: x50 :: x51 :: x52 :: x53 :: x54 :: x55 :: x56 :: z57 :: z58 :: z59 :: z60 :: z61 :: z62 :: z63 :: z64 :: z65 :: z66 :: z67 :: z68 :: x69 :: x70 :: x71 :: []), []⟩ W') :
    Code.wp Tryz.prog (Code.region 14 #[{ dst := some 57, op := Op.buildSlice 28 0 #[], type := 28, pos := "ref.go:22", after := #[], guard := none }, { dst := some 58, op := Op.move (Operand.tmp 5), type := 28, pos := "ref.go:22", after := #[], guard := none }, { dst := some 59, op := Op.move (Operand.tmp 11), type := 3, pos := "ref.go:22", after := #[], guard := none }, { dst := some 60, op := Op.slice 28 (Operand.tmp 58) none (some (Operand.tmp 59)) none, type := 28, pos := "ref.go:22", after := #[{ on := 1, ground := Ground.data }, { on := 2, ground := Ground.data }], guard := none }, { dst := some 61, op := Op.call { callee := Callee.builtin Builtin.append, args := #[Operand.tmp 57, Operand.tmp 60], argTypes := #[28, 28] }, type := 28, pos := "ref.go:22", after := #[{ on := 0, ground := Ground.data }, { on := 3, ground := Ground.data }], guard := none }, { dst := some 62, op := Op.load 30 (Operand.tmp 10), type := 30, pos := "ref.go:22", after := #[], guard := none }, { dst := some 63, op := Op.buildSlice 28 1 #[(0, Operand.tmp 62)], type := 28, pos := "ref.go:22", after := #[{ on := 5, ground := Ground.data }], guard := none }, { dst := some 64, op := Op.call { callee := Callee.builtin Builtin.append, args := #[Operand.tmp 61, Operand.tmp 63], argTypes := #[28, 28] }, type := 28, pos := "ref.go:22", after := #[{ on := 4, ground := Ground.data }, { on := 6, ground := Ground.data }, { on := 4, ground := Ground.chain }], guard := none }, { dst := some 65, op := Op.move (Operand.tmp 5), type := 28, pos := "ref.go:22", after := #[], guard := none }, { dst := some 66, op := Op.move (Operand.tmp 11), type := 3, pos := "ref.go:22", after := #[], guard := none }, { dst := some 67, op := Op.slice 28 (Operand.tmp 65) (some (Operand.tmp 66)) none none, type := 28, pos := "ref.go:22", after := #[{ on := 8, ground := Ground.data }, { on := 9, ground := Ground.data }], guard := none }, { dst := some 68, op := Op.call { callee := Callee.builtin Builtin.append, args := #[Operand.tmp 64, Operand.tmp 67], argTypes := #[28, 28] }, type := 28, pos := "ref.go:22", after := #[{ on := 7, ground := Ground.data }, { on := 10, ground := Ground.data }, { on := 7, ground := Ground.chain }], guard := none }, { dst := some 5, op := Op.assign (Operand.tmp 68), type := 28, pos := "ref.go:22", after := #[{ on := 11, ground := Ground.data }, { on := 11, ground := Ground.chain }, { on := 0, ground := Ground.phase }, { on := 1, ground := Ground.phase }, { on := 2, ground := Ground.phase }, { on := 3, ground := Ground.phase }, { on := 4, ground := Ground.phase }, { on := 5, ground := Ground.phase }, { on := 6, ground := Ground.phase }, { on := 7, ground := Ground.phase }, { on := 8, ground := Ground.phase }, { on := 9, ground := Ground.phase }, { on := 10, ground := Ground.phase }, { on := 11, ground := Ground.phase }], guard := none }] true) Q ⟨List.toArray (x0 :: x1 :: x2 :: x3 :: x4 :: .slice (some ⟨g, 0, none⟩) n yc :: x6 :: x7 :: x8 :: x9 :: .pointer (some ⟨yb, 0, none⟩) :: .int .i64 at' :: x12 :: x13 :: x14 :: x15 :: x16 :: x17 :: x18 :: x19 :: x20 :: x21 :: x22 :: x23 :: x24 :: x25 :: x26 :: x27 :: x28 :: x29 :: x30 :: x31 :: x32 :: x33 :: x34 :: x35 :: x36 :: x37 :: x38 :: x39 :: x40 :: x41 :: x42 :: x43 :: x44 :: x45 :: x46 :: x47 :: x48 :: x49 :: x50 :: x51 :: x52 :: x53 :: x54 :: x55 :: x56 :: x57 :: x58 :: x59 :: x60 :: x61 :: x62 :: x63 :: x64 :: x65 :: x66 :: x67 :: x68 :: x69 :: x70 :: x71 :: []), []⟩ W := by
  have HH : Hid (∀ v' W' z57 z58 z59 z60 z61 z62 z63 z64 z65 z66 z67 z68, Own3 W' W.heap.size v' (OUT.take at' ++ (q, s, e) :: OUT.drop at') → Below W.heap.size W W' → Q .normal ⟨List.toArray (x0 :: x1 :: x2 :: x3 :: x4 :: v' :: x6 :: x7 :: x8 :: x9 :: .pointer (some ⟨yb, 0, none⟩) :: .int .i64 at' :: x12 :: x13 :: x14 :: x15 :: x16 :: x17 :: x18 :: x19 :: x20 :: x21 :: x22 :: x23 :: x24 :: x25 :: x26 :: x27 :: x28 :: x29 :: x30 :: x31 :: x32 :: x33 :: x34 :: x35 :: x36 :: x37 :: x38 :: x39 :: x40 :: x41 :: x42 :: x43 :: x44 :: x45 :: x46 :: x47 :: x48 :: x49 :: x50 :: x51 :: x52 :: x53 :: x54 :: x55 :: x56 :: z57 :: z58 :: z59 :: z60 :: z61 :: z62 :: z63 :: z64 :: z65 :: z66 :: z67 :: z68 :: x69 :: x70 :: x71 :: []), []⟩ W') := h
  have hyl : yb < W.heap.size := (Array.getElem?_eq_some_iff.1 hY).1
  have HYC : Hid (∀ X, Below W.heap.size W X → X.cell? ⟨yb, 0, none⟩ = some (.int .i64 q) ∧ X.cell? ⟨yb, 1, none⟩ = some (.int .i64 s) ∧ X.cell? ⟨yb, 2, none⟩ = some (.int .i64 e)) := fun X hb => by
    have hY' := (hb.block yb hyl).trans hY
    have y0 := cell_of_row X yb 0 _ _ _ hY'
    have y1 := cell_of_row X yb 1 _ _ _ hY'
    have y2 := cell_of_row X yb 2 _ _ _ hY'
    simp at y0 y1 y2
    exact ⟨y0, y1, y2⟩
  have HPRE : Hid (∀ X, Below W.heap.size W X → ∀ j u, (fl (OUT.take at'))[j]? = some u → X.cell? ((⟨g, 0, none⟩ : Addr).add j) = some u) := fun X hb => pre_cells (hO.below hb) hn (Nat.zero_le _)
  have HSUF : Hid (∀ X, Below W.heap.size W X → ∀ j u, (fl (OUT.drop at'))[j]? = some u → X.cell? ((⟨g, at' * 3, none⟩ : Addr).add j) = some u) := fun X hb => suf_cells (hO.below hb) hn hat
  have HTL : Hid ((OUT.take at').length = at') := by show _ = _; rw [List.length_take, hn]; omega
  have HDL : Hid ((OUT.drop at').length = n - at') := by show _ = _; rw [List.length_drop, hn]
  have HDN : Hid (at' = n → OUT.drop at' = []) := fun e => by rw [e, ← hn]; exact List.drop_length
  have i1 : (0 : Int) ≤ (at' : Int) := by omega
  have i2 : (at' : Int) ≤ (n : Int) := by omega
  have i3 : (at' : Int) ≤ (yc : Int) := by omega
  have i4 : (n : Int) ≤ (yc : Int) := by omega
  have HB0 : Hid (Below W.heap.size W W.drew) := (Below.refl _ W).drew
  obtain ⟨y0, y1, y2⟩ := HYC.out W (Below.refl _ W)
  clear h hY hO hn
  refine wp_region_noPanic ?_
  refine wp_region_held_drew (S := fun w' => w'.cell? ⟨yb, 0, none⟩ = some (.int .i64 q) ∧ w'.cell? ⟨yb, 1, none⟩ = some (.int .i64 s) ∧ w'.cell? ⟨yb, 2, none⟩ = some (.int .i64 e)) (by kernel_rfl) ?_ (fun hHeld => ?_)
  · exact ⟨y0, y1, y2⟩
  generalize W.drew = X0 at *
  clear y0 y1 y2
  refine wpAnyH_take (i := 1) (oi := ({ dst := some 58, op := Op.move (Operand.tmp 5), type := 28, pos := "ref.go:22", after := #[], guard := none } : Oper)) (v := ?_) rfl (by kernel_rfl) (by kernel_rfl) (by kernel_rfl) (fun _ _ _ h => h) (Or.inl ⟨by rfl, ?_⟩) (by assumption) ?_
  rotate_left
  · (intro w' hSw; (try dsimp only at hSw); go_simp; try with_reducible rfl)
  try simp only [Act.put, List.setIfInBounds_toArray, List.set_cons_zero, List.set_cons_succ]
  refine wpAnyH_take (i := 2) (oi := ({ dst := some 59, op := Op.move (Operand.tmp 11), type := 3, pos := "ref.go:22", after := #[], guard := none } : Oper)) (v := ?_) rfl (by kernel_rfl) (by kernel_rfl) (by kernel_rfl) (fun _ _ _ h => h) (Or.inl ⟨by rfl, ?_⟩) (by assumption) ?_
  rotate_left
  · (intro w' hSw; (try dsimp only at hSw); go_simp; try with_reducible rfl)
  try simp only [Act.put, List.setIfInBounds_toArray, List.set_cons_zero, List.set_cons_succ]
  refine wpAnyH_take (i := 3) (oi := ({ dst := some 60, op := Op.slice 28 (Operand.tmp 58) none (some (Operand.tmp 59)) none, type := 28, pos := "ref.go:22", after := #[{ on := 1, ground := Ground.data }, { on := 2, ground := Ground.data }], guard := none } : Oper)) (v := ?_) rfl (by kernel_rfl) (by kernel_rfl) (by kernel_rfl) (fun _ _ _ h => h) (Or.inl ⟨by rfl, ?_⟩) (by assumption) ?_
  rotate_left
  · (intro w' hSw; (try dsimp only at hSw); go_simp; try with_reducible rfl)
  try simp only [Act.put, List.setIfInBounds_toArray, List.set_cons_zero, List.set_cons_succ]
  refine wpAnyH_take (i := 5) (oi := ({ dst := some 62, op := Op.load 30 (Operand.tmp 10), type := 30, pos := "ref.go:22", after := #[], guard := none } : Oper)) (v := ?_) rfl (by kernel_rfl) (by kernel_rfl) (by kernel_rfl) (fun _ _ _ h => h) (Or.inl ⟨by rfl, ?_⟩) (by assumption) ?_
  rotate_left
  · (intro w' hSw; (try dsimp only at hSw); go_simp; try with_reducible rfl)
  try simp only [Act.put, List.setIfInBounds_toArray, List.set_cons_zero, List.set_cons_succ]
  refine wpAnyH_take (i := 8) (oi := ({ dst := some 65, op := Op.move (Operand.tmp 5), type := 28, pos := "ref.go:22", after := #[], guard := none } : Oper)) (v := ?_) rfl (by kernel_rfl) (by kernel_rfl) (by kernel_rfl) (fun _ _ _ h => h) (Or.inl ⟨by rfl, ?_⟩) (by assumption) ?_
  rotate_left
  · (intro w' hSw; (try dsimp only at hSw); go_simp; try with_reducible rfl)
  try simp only [Act.put, List.setIfInBounds_toArray, List.set_cons_zero, List.set_cons_succ]
  refine wpAnyH_take (i := 9) (oi := ({ dst := some 66, op := Op.move (Operand.tmp 11), type := 3, pos := "ref.go:22", after := #[], guard := none } : Oper)) (v := ?_) rfl (by kernel_rfl) (by kernel_rfl) (by kernel_rfl) (fun _ _ _ h => h) (Or.inl ⟨by rfl, ?_⟩) (by assumption) ?_
  rotate_left
  · (intro w' hSw; (try dsimp only at hSw); go_simp; try with_reducible rfl)
  try simp only [Act.put, List.setIfInBounds_toArray, List.set_cons_zero, List.set_cons_succ]
  refine wpAnyH_take (i := 10) (oi := ({ dst := some 67, op := Op.slice 28 (Operand.tmp 65) (some (Operand.tmp 66)) none none, type := 28, pos := "ref.go:22", after := #[{ on := 8, ground := Ground.data }, { on := 9, ground := Ground.data }], guard := none } : Oper)) (v := ?_) rfl (by kernel_rfl) (by kernel_rfl) (by kernel_rfl) (fun _ _ _ h => h) (Or.inl ⟨by rfl, ?_⟩) (by assumption) ?_
  rotate_left
  · (intro w' hSw; (try dsimp only at hSw); go_simp; try with_reducible rfl)
  try simp only [Act.put, List.setIfInBounds_toArray, List.set_cons_zero, List.set_cons_succ]
  refine wpAnyH_ready (rs := [0, 6]) (by kernel_rfl) (by simp) ?_
  refine AllReadyH.cons (o := ({ dst := some 57, op := Op.buildSlice 28 0 #[], type := 28, pos := "ref.go:22", after := #[], guard := none } : Oper)) rfl (fun K hK => ?_) ?_
  · have bA : Below X0.heap.size X0 (X0.alloc (.cells #[] 30)) := (Below.refl _ X0).alloc (Nat.le_refl _) _
    have HB1 : Hid (Below W.heap.size W (X0.alloc (.cells #[] 30))) := HB0.out.trans (bA.mono HB0.out.size)
    have OW1 : Hid (Own3 (X0.alloc (.cells #[] 30)) W.heap.size (.slice (some ⟨X0.heap.size, 0, none⟩) 0 0) []) := World.ownsRow_lit (base := W.heap.size) (e := 30) (size := 3) X0 #[] 0 HB0.out.size (by unfold maxLen; omega) rfl
    go_simp
    obtain ⟨k1, hk1⟩ : ∃ z, X0.heap.size = z := ⟨_, rfl⟩
    try rw [hk1] at OW1
    try rw [hk1]
    clear bA
    generalize X0.alloc (.cells #[] 30) = X1 at *
    refine hK.out _ _ ?_ (fun hHeld2 => ?_)
    · exact HYC.out X1 HB1.out
    clear hK K hHeld
    have hHeld := hHeld2
    clear hHeld2
    try simp only [Act.put, List.setIfInBounds_toArray, List.set_cons_zero, List.set_cons_succ]
    refine wpAnyH_ready (rs := [4, 6]) (by kernel_rfl) (by simp) ?_
    refine AllReadyH.cons (o := ({ dst := some 61, op := Op.call { callee := Callee.builtin Builtin.append, args := #[Operand.tmp 57, Operand.tmp 60], argTypes := #[28, 28] }, type := 28, pos := "ref.go:22", after := #[{ on := 0, ground := Ground.data }, { on := 3, ground := Ground.data }], guard := none } : Oper)) rfl (fun K hK => ?_) ?_
    · refine step_app rfl _ _ rfl W.heap.size (.slice (some ⟨k1, 0, none⟩) 0 0) ([]) rfl OW1.out _ _ _ (OUT.take at') rfl ?cl ?cn ?cw ?cz HB1.out.size ?_
      case cl => exact HTL.out
      case cn => intro e9; cases e9
      case cw => intro ad e9; cases e9; exact HPRE.out X1 HB1.out
      case cz => have := HTL.out; simp; omega
      intro v2 X2 ow hgr
      have HB2 : Hid (Below W.heap.size W X2) := Below.grown HB1.out hgr HB1.out.size (fun k e9 => (OW1.out.lt _ e9).1)
      have OW2 : Hid (Own3 X2 W.heap.size v2 (([]) ++ (OUT.take at'))) := ow
      clear ow hgr
      refine hK.out _ _ ?_ (fun hHeld2 => ?_)
      · exact HYC.out X2 HB2.out
      clear hK K hHeld
      have hHeld := hHeld2
      clear hHeld2
      try simp only [Act.put, List.setIfInBounds_toArray, List.set_cons_zero, List.set_cons_succ]
      refine wpAnyH_ready (rs := [6]) (by kernel_rfl) (by simp) ?_
      refine AllReadyH.cons (o := ({ dst := some 63, op := Op.buildSlice 28 1 #[(0, Operand.tmp 62)], type := 28, pos := "ref.go:22", after := #[{ on := 5, ground := Ground.data }], guard := none } : Oper)) rfl (fun K hK => ?_) ?_
      · have bA : Below X2.heap.size X2 (X2.alloc (.cells #[.int .i64 q, .int .i64 s, .int .i64 e] 30)) := (Below.refl _ X2).alloc (Nat.le_refl _) _
        have HB3 : Hid (Below W.heap.size W (X2.alloc (.cells #[.int .i64 q, .int .i64 s, .int .i64 e] 30))) := HB2.out.trans (bA.mono HB2.out.size)
        have CY3 : Hid (∀ j u, (fl [(q, s, e)])[j]? = some u → (X2.alloc (.cells #[.int .i64 q, .int .i64 s, .int .i64 e] 30)).cell? ((⟨X2.heap.size, 0, none⟩ : Addr).add j) = some u) := fun j u hj => one3_new X2 _ _ _ _ j u hj
        have OW3 : Hid (Own3 (X2.alloc (.cells #[.int .i64 q, .int .i64 s, .int .i64 e] 30)) W.heap.size v2 (([]) ++ (OUT.take at'))) := OW2.out.below bA
        go_simp
        obtain ⟨k3, hk3⟩ : ∃ z, X2.heap.size = z := ⟨_, rfl⟩
        try rw [hk3] at CY3
        try rw [hk3]
        clear bA
        generalize X2.alloc (.cells #[.int .i64 q, .int .i64 s, .int .i64 e] 30) = X3 at *
        refine hK.out _ _ ?_ (fun hHeld2 => ?_)
        · exact HYC.out X3 HB3.out
        clear hK K hHeld
        have hHeld := hHeld2
        clear hHeld2
        try simp only [Act.put, List.setIfInBounds_toArray, List.set_cons_zero, List.set_cons_succ]
        refine wpAnyH_ready (rs := [7]) (by kernel_rfl) (by simp) ?_
        refine AllReadyH.cons (o := ({ dst := some 64, op := Op.call { callee := Callee.builtin Builtin.append, args := #[Operand.tmp 61, Operand.tmp 63], argTypes := #[28, 28] }, type := 28, pos := "ref.go:22", after := #[{ on := 4, ground := Ground.data }, { on := 6, ground := Ground.data }, { on := 4, ground := Ground.chain }], guard := none } : Oper)) rfl (fun K hK => ?_) ?_
        · refine step_app rfl _ _ rfl W.heap.size v2 (([]) ++ (OUT.take at')) rfl OW3.out _ _ _ ([(q, s, e)]) rfl ?cl ?cn ?cw ?cz HB3.out.size ?_
          case cl => rfl
          case cn => intro e9; cases e9
          case cw => intro ad e9; cases e9; exact CY3.out
          case cz => (try rw [List.length_append]); (try rw [HTL.out]); (try simp); (try omega)
          intro v4 X4 ow hgr
          have HB4 : Hid (Below W.heap.size W X4) := Below.grown HB3.out hgr HB3.out.size (fun k e9 => (OW3.out.lt _ e9).1)
          have OW4 : Hid (Own3 X4 W.heap.size v4 ((([]) ++ (OUT.take at')) ++ ([(q, s, e)]))) := ow
          clear ow hgr
          refine hK.out _ _ ?_ (fun hHeld2 => ?_)
          · exact HYC.out X4 HB4.out
          clear hK K hHeld
          have hHeld := hHeld2
          clear hHeld2
          try simp only [Act.put, List.setIfInBounds_toArray, List.set_cons_zero, List.set_cons_succ]
          refine wpAnyH_ready (rs := [11]) (by kernel_rfl) (by simp) ?_
          refine AllReadyH.cons (o := ({ dst := some 68, op := Op.call { callee := Callee.builtin Builtin.append, args := #[Operand.tmp 64, Operand.tmp 67], argTypes := #[28, 28] }, type := 28, pos := "ref.go:22", after := #[{ on := 7, ground := Ground.data }, { on := 10, ground := Ground.data }, { on := 7, ground := Ground.chain }], guard := none } : Oper)) rfl (fun K hK => ?_) ?_
          · refine step_app rfl _ _ rfl W.heap.size v4 ((([]) ++ (OUT.take at')) ++ ([(q, s, e)])) rfl OW4.out (if yc = at' then some ⟨g, 0, none⟩ else some ⟨g, at' * 3, none⟩) (n - at') (yc - at') (OUT.drop at') rfl ?cl ?cn ?cw ?cz HB4.out.size ?_
            case cl => exact HDL.out
            case cn => intro e9; split at e9 <;> cases e9
            case cw => intro ad e9; split at e9; (intro j9 u9 h9; rw [HDN.out (by omega)] at h9; simp [fl] at h9); (cases e9; exact HSUF.out X4 HB4.out)
            case cz => have := HTL.out; have := HDL.out; simp only [List.length_append, List.length_cons, List.length_nil] at *; omega
            intro v5 X5 ow hgr
            have HB5 : Hid (Below W.heap.size W X5) := Below.grown HB4.out hgr HB4.out.size (fun k e9 => (OW4.out.lt _ e9).1)
            have OW5 : Hid (Own3 X5 W.heap.size v5 (((([]) ++ (OUT.take at')) ++ ([(q, s, e)])) ++ (OUT.drop at'))) := ow
            clear ow hgr
            refine hK.out _ _ ?_ (fun hHeld2 => ?_)
            · exact HYC.out X5 HB5.out
            clear hK K hHeld
            have hHeld := hHeld2
            clear hHeld2
            try simp only [Act.put, List.setIfInBounds_toArray, List.set_cons_zero, List.set_cons_succ]
            refine wpAnyH_ready (rs := [12]) (by kernel_rfl) (by simp) ?_
            refine AllReadyH.cons (o := ({ dst := some 5, op := Op.assign (Operand.tmp 68), type := 28, pos := "ref.go:22", after := #[{ on := 11, ground := Ground.data }, { on := 11, ground := Ground.chain }, { on := 0, ground := Ground.phase }, { on := 1, ground := Ground.phase }, { on := 2, ground := Ground.phase }, { on := 3, ground := Ground.phase }, { on := 4, ground := Ground.phase }, { on := 5, ground := Ground.phase }, { on := 6, ground := Ground.phase }, { on := 7, ground := Ground.phase }, { on := 8, ground := Ground.phase }, { on := 9, ground := Ground.phase }, { on := 10, ground := Ground.phase }, { on := 11, ground := Ground.phase }], guard := none } : Oper)) rfl (fun K hK => ?_) ?_
            · go_simp
              refine hK.out _ _ ?_ (fun hHeld2 => ?_)
              · exact HYC.out X5 HB5.out
              clear hK K hHeld hHeld2
              try simp only [Act.put, List.setIfInBounds_toArray, List.set_cons_zero, List.set_cons_succ]
              refine wpAnyH_done (by kernel_rfl) ?_ _
              refine NoPanic.normal ?_
              exact HH.out v5 X5 _ _ _ _ _ _ _ _ _ _ _ _ (by have h9 := OW5.out; simpa using h9) HB5.out
            exact AllReadyH.nil
          exact AllReadyH.nil
        exact AllReadyH.nil
      exact AllReadyH.nil
    refine AllReadyH.cons (o := ({ dst := some 63, op := Op.buildSlice 28 1 #[(0, Operand.tmp 62)], type := 28, pos := "ref.go:22", after := #[{ on := 5, ground := Ground.data }], guard := none } : Oper)) rfl (fun K hK => ?_) ?_
    · have bA : Below X1.heap.size X1 (X1.alloc (.cells #[.int .i64 q, .int .i64 s, .int .i64 e] 30)) := (Below.refl _ X1).alloc (Nat.le_refl _) _
      have HB2 : Hid (Below W.heap.size W (X1.alloc (.cells #[.int .i64 q, .int .i64 s, .int .i64 e] 30))) := HB1.out.trans (bA.mono HB1.out.size)
      have CY2 : Hid (∀ j u, (fl [(q, s, e)])[j]? = some u → (X1.alloc (.cells #[.int .i64 q, .int .i64 s, .int .i64 e] 30)).cell? ((⟨X1.heap.size, 0, none⟩ : Addr).add j) = some u) := fun j u hj => one3_new X1 _ _ _ _ j u hj
      have OW2 : Hid (Own3 (X1.alloc (.cells #[.int .i64 q, .int .i64 s, .int .i64 e] 30)) W.heap.size (.slice (some ⟨k1, 0, none⟩) 0 0) ([])) := OW1.out.below bA
      go_simp
      obtain ⟨k2, hk2⟩ : ∃ z, X1.heap.size = z := ⟨_, rfl⟩
      have hne2 : k1 ≠ k2 := by have h9 := OW1.out.lt _ rfl; rw [hk2] at h9; exact fun h7 => by rw [h7] at h9; exact Nat.lt_irrefl _ h9.2
      try rw [hk2] at CY2
      try rw [hk2]
      clear bA
      generalize X1.alloc (.cells #[.int .i64 q, .int .i64 s, .int .i64 e] 30) = X2 at *
      refine hK.out _ _ ?_ (fun hHeld2 => ?_)
      · exact HYC.out X2 HB2.out
      clear hK K hHeld
      have hHeld := hHeld2
      clear hHeld2
      try simp only [Act.put, List.setIfInBounds_toArray, List.set_cons_zero, List.set_cons_succ]
      refine wpAnyH_ready (rs := [4]) (by kernel_rfl) (by simp) ?_
      refine AllReadyH.cons (o := ({ dst := some 61, op := Op.call { callee := Callee.builtin Builtin.append, args := #[Operand.tmp 57, Operand.tmp 60], argTypes := #[28, 28] }, type := 28, pos := "ref.go:22", after := #[{ on := 0, ground := Ground.data }, { on := 3, ground := Ground.data }], guard := none } : Oper)) rfl (fun K hK => ?_) ?_
      · refine step_app rfl _ _ rfl W.heap.size (.slice (some ⟨k1, 0, none⟩) 0 0) ([]) rfl OW2.out _ _ _ (OUT.take at') rfl ?cl ?cn ?cw ?cz HB2.out.size ?_
        case cl => exact HTL.out
        case cn => intro e9; cases e9
        case cw => intro ad e9; cases e9; exact HPRE.out X2 HB2.out
        case cz => have := HTL.out; simp; omega
        intro v3 X3 ow hgr
        have HB3 : Hid (Below W.heap.size W X3) := Below.grown HB2.out hgr HB2.out.size (fun k e9 => (OW2.out.lt _ e9).1)
        have OW3 : Hid (Own3 X3 W.heap.size v3 (([]) ++ (OUT.take at'))) := ow
        have CY3 : Hid (∀ j u, (fl [(q, s, e)])[j]? = some u → X3.cell? ((⟨k2, 0, none⟩ : Addr).add j) = some u) := fun j u hj => hgr.cell (CY2.out j u hj) (by simp only [Addr.add_lit, Value.ownBlock]; intro h9; cases h9; exact hne2 rfl)
        clear ow hgr
        refine hK.out _ _ ?_ (fun hHeld2 => ?_)
        · exact HYC.out X3 HB3.out
        clear hK K hHeld
        have hHeld := hHeld2
        clear hHeld2
        try simp only [Act.put, List.setIfInBounds_toArray, List.set_cons_zero, List.set_cons_succ]
        refine wpAnyH_ready (rs := [7]) (by kernel_rfl) (by simp) ?_
        refine AllReadyH.cons (o := ({ dst := some 64, op := Op.call { callee := Callee.builtin Builtin.append, args := #[Operand.tmp 61, Operand.tmp 63], argTypes := #[28, 28] }, type := 28, pos := "ref.go:22", after := #[{ on := 4, ground := Ground.data }, { on := 6, ground := Ground.data }, { on := 4, ground := Ground.chain }], guard := none } : Oper)) rfl (fun K hK => ?_) ?_
        · refine step_app rfl _ _ rfl W.heap.size v3 (([]) ++ (OUT.take at')) rfl OW3.out _ _ _ ([(q, s, e)]) rfl ?cl ?cn ?cw ?cz HB3.out.size ?_
          case cl => rfl
          case cn => intro e9; cases e9
          case cw => intro ad e9; cases e9; exact CY3.out
          case cz => (try rw [List.length_append]); (try rw [HTL.out]); (try simp); (try omega)
          intro v4 X4 ow hgr
          have HB4 : Hid (Below W.heap.size W X4) := Below.grown HB3.out hgr HB3.out.size (fun k e9 => (OW3.out.lt _ e9).1)
          have OW4 : Hid (Own3 X4 W.heap.size v4 ((([]) ++ (OUT.take at')) ++ ([(q, s, e)]))) := ow
          clear ow hgr
          refine hK.out _ _ ?_ (fun hHeld2 => ?_)
          · exact HYC.out X4 HB4.out
          clear hK K hHeld
          have hHeld := hHeld2
          clear hHeld2
          try simp only [Act.put, List.setIfInBounds_toArray, List.set_cons_zero, List.set_cons_succ]
          refine wpAnyH_ready (rs := [11]) (by kernel_rfl) (by simp) ?_
          refine AllReadyH.cons (o := ({ dst := some 68, op := Op.call { callee := Callee.builtin Builtin.append, args := #[Operand.tmp 64, Operand.tmp 67], argTypes := #[28, 28] }, type := 28, pos := "ref.go:22", after := #[{ on := 7, ground := Ground.data }, { on := 10, ground := Ground.data }, { on := 7, ground := Ground.chain }], guard := none } : Oper)) rfl (fun K hK => ?_) ?_
          · refine step_app rfl _ _ rfl W.heap.size v4 ((([]) ++ (OUT.take at')) ++ ([(q, s, e)])) rfl OW4.out (if yc = at' then some ⟨g, 0, none⟩ else some ⟨g, at' * 3, none⟩) (n - at') (yc - at') (OUT.drop at') rfl ?cl ?cn ?cw ?cz HB4.out.size ?_
            case cl => exact HDL.out
            case cn => intro e9; split at e9 <;> cases e9
            case cw => intro ad e9; split at e9; (intro j9 u9 h9; rw [HDN.out (by omega)] at h9; simp [fl] at h9); (cases e9; exact HSUF.out X4 HB4.out)
            case cz => have := HTL.out; have := HDL.out; simp only [List.length_append, List.length_cons, List.length_nil] at *; omega
            intro v5 X5 ow hgr
            have HB5 : Hid (Below W.heap.size W X5) := Below.grown HB4.out hgr HB4.out.size (fun k e9 => (OW4.out.lt _ e9).1)
            have OW5 : Hid (Own3 X5 W.heap.size v5 (((([]) ++ (OUT.take at')) ++ ([(q, s, e)])) ++ (OUT.drop at'))) := ow
            clear ow hgr
            refine hK.out _ _ ?_ (fun hHeld2 => ?_)
            · exact HYC.out X5 HB5.out
            clear hK K hHeld
            have hHeld := hHeld2
            clear hHeld2
            try simp only [Act.put, List.setIfInBounds_toArray, List.set_cons_zero, List.set_cons_succ]
            refine wpAnyH_ready (rs := [12]) (by kernel_rfl) (by simp) ?_
            refine AllReadyH.cons (o := ({ dst := some 5, op := Op.assign (Operand.tmp 68), type := 28, pos := "ref.go:22", after := #[{ on := 11, ground := Ground.data }, { on := 11, ground := Ground.chain }, { on := 0, ground := Ground.phase }, { on := 1, ground := Ground.phase }, { on := 2, ground := Ground.phase }, { on := 3, ground := Ground.phase }, { on := 4, ground := Ground.phase }, { on := 5, ground := Ground.phase }, { on := 6, ground := Ground.phase }, { on := 7, ground := Ground.phase }, { on := 8, ground := Ground.phase }, { on := 9, ground := Ground.phase }, { on := 10, ground := Ground.phase }, { on := 11, ground := Ground.phase }], guard := none } : Oper)) rfl (fun K hK => ?_) ?_
            · go_simp
              refine hK.out _ _ ?_ (fun hHeld2 => ?_)
              · exact HYC.out X5 HB5.out
              clear hK K hHeld hHeld2
              try simp only [Act.put, List.setIfInBounds_toArray, List.set_cons_zero, List.set_cons_succ]
              refine wpAnyH_done (by kernel_rfl) ?_ _
              refine NoPanic.normal ?_
              exact HH.out v5 X5 _ _ _ _ _ _ _ _ _ _ _ _ (by have h9 := OW5.out; simpa using h9) HB5.out
            exact AllReadyH.nil
          exact AllReadyH.nil
        exact AllReadyH.nil
      exact AllReadyH.nil
    exact AllReadyH.nil
  refine AllReadyH.cons (o := ({ dst := some 63, op := Op.buildSlice 28 1 #[(0, Operand.tmp 62)], type := 28, pos := "ref.go:22", after := #[{ on := 5, ground := Ground.data }], guard := none } : Oper)) rfl (fun K hK => ?_) ?_
  · have bA : Below X0.heap.size X0 (X0.alloc (.cells #[.int .i64 q, .int .i64 s, .int .i64 e] 30)) := (Below.refl _ X0).alloc (Nat.le_refl _) _
    have HB1 : Hid (Below W.heap.size W (X0.alloc (.cells #[.int .i64 q, .int .i64 s, .int .i64 e] 30))) := HB0.out.trans (bA.mono HB0.out.size)
    have CY1 : Hid (∀ j u, (fl [(q, s, e)])[j]? = some u → (X0.alloc (.cells #[.int .i64 q, .int .i64 s, .int .i64 e] 30)).cell? ((⟨X0.heap.size, 0, none⟩ : Addr).add j) = some u) := fun j u hj => one3_new X0 _ _ _ _ j u hj
    go_simp
    obtain ⟨k1, hk1⟩ : ∃ z, X0.heap.size = z := ⟨_, rfl⟩
    try rw [hk1] at CY1
    try rw [hk1]
    clear bA
    generalize X0.alloc (.cells #[.int .i64 q, .int .i64 s, .int .i64 e] 30) = X1 at *
    refine hK.out _ _ ?_ (fun hHeld2 => ?_)
    · exact HYC.out X1 HB1.out
    clear hK K hHeld
    have hHeld := hHeld2
    clear hHeld2
    try simp only [Act.put, List.setIfInBounds_toArray, List.set_cons_zero, List.set_cons_succ]
    refine wpAnyH_ready (rs := [0]) (by kernel_rfl) (by simp) ?_
    refine AllReadyH.cons (o := ({ dst := some 57, op := Op.buildSlice 28 0 #[], type := 28, pos := "ref.go:22", after := #[], guard := none } : Oper)) rfl (fun K hK => ?_) ?_
    · have bA : Below X1.heap.size X1 (X1.alloc (.cells #[] 30)) := (Below.refl _ X1).alloc (Nat.le_refl _) _
      have HB2 : Hid (Below W.heap.size W (X1.alloc (.cells #[] 30))) := HB1.out.trans (bA.mono HB1.out.size)
      have OW2 : Hid (Own3 (X1.alloc (.cells #[] 30)) W.heap.size (.slice (some ⟨X1.heap.size, 0, none⟩) 0 0) []) := World.ownsRow_lit (base := W.heap.size) (e := 30) (size := 3) X1 #[] 0 HB1.out.size (by unfold maxLen; omega) rfl
      have CY2 : Hid (∀ j u, (fl [(q, s, e)])[j]? = some u → (X1.alloc (.cells #[] 30)).cell? ((⟨k1, 0, none⟩ : Addr).add j) = some u) := fun j u hj => by have h9 := CY1.out j u hj; exact (bA.cell (World.block_lt_of_cell? X1 _ h9)).trans h9
      go_simp
      obtain ⟨k2, hk2⟩ : ∃ z, X1.heap.size = z := ⟨_, rfl⟩
      have hne2 : k2 ≠ k1 := by have h9 := CY1.out 0 (.int .i64 q) rfl; rw [Addr.add_lit] at h9; have h8 : k1 < X1.heap.size := World.block_lt_of_cell? X1 _ h9; omega
      try rw [hk2] at OW2
      try rw [hk2]
      clear bA
      generalize X1.alloc (.cells #[] 30) = X2 at *
      refine hK.out _ _ ?_ (fun hHeld2 => ?_)
      · exact HYC.out X2 HB2.out
      clear hK K hHeld
      have hHeld := hHeld2
      clear hHeld2
      try simp only [Act.put, List.setIfInBounds_toArray, List.set_cons_zero, List.set_cons_succ]
      refine wpAnyH_ready (rs := [4]) (by kernel_rfl) (by simp) ?_
      refine AllReadyH.cons (o := ({ dst := some 61, op := Op.call { callee := Callee.builtin Builtin.append, args := #[Operand.tmp 57, Operand.tmp 60], argTypes := #[28, 28] }, type := 28, pos := "ref.go:22", after := #[{ on := 0, ground := Ground.data }, { on := 3, ground := Ground.data }], guard := none } : Oper)) rfl (fun K hK => ?_) ?_
      · refine step_app rfl _ _ rfl W.heap.size (.slice (some ⟨k2, 0, none⟩) 0 0) ([]) rfl OW2.out _ _ _ (OUT.take at') rfl ?cl ?cn ?cw ?cz HB2.out.size ?_
        case cl => exact HTL.out
        case cn => intro e9; cases e9
        case cw => intro ad e9; cases e9; exact HPRE.out X2 HB2.out
        case cz => have := HTL.out; simp; omega
        intro v3 X3 ow hgr
        have HB3 : Hid (Below W.heap.size W X3) := Below.grown HB2.out hgr HB2.out.size (fun k e9 => (OW2.out.lt _ e9).1)
        have OW3 : Hid (Own3 X3 W.heap.size v3 (([]) ++ (OUT.take at'))) := ow
        have CY3 : Hid (∀ j u, (fl [(q, s, e)])[j]? = some u → X3.cell? ((⟨k1, 0, none⟩ : Addr).add j) = some u) := fun j u hj => hgr.cell (CY2.out j u hj) (by simp only [Addr.add_lit, Value.ownBlock]; intro h9; cases h9; exact hne2 rfl)
        clear ow hgr
        refine hK.out _ _ ?_ (fun hHeld2 => ?_)
        · exact HYC.out X3 HB3.out
        clear hK K hHeld
        have hHeld := hHeld2
        clear hHeld2
        try simp only [Act.put, List.setIfInBounds_toArray, List.set_cons_zero, List.set_cons_succ]
        refine wpAnyH_ready (rs := [7]) (by kernel_rfl) (by simp) ?_
        refine AllReadyH.cons (o := ({ dst := some 64, op := Op.call { callee := Callee.builtin Builtin.append, args := #[Operand.tmp 61, Operand.tmp 63], argTypes := #[28, 28] }, type := 28, pos := "ref.go:22", after := #[{ on := 4, ground := Ground.data }, { on := 6, ground := Ground.data }, { on := 4, ground := Ground.chain }], guard := none } : Oper)) rfl (fun K hK => ?_) ?_
        · refine step_app rfl _ _ rfl W.heap.size v3 (([]) ++ (OUT.take at')) rfl OW3.out _ _ _ ([(q, s, e)]) rfl ?cl ?cn ?cw ?cz HB3.out.size ?_
          case cl => rfl
          case cn => intro e9; cases e9
          case cw => intro ad e9; cases e9; exact CY3.out
          case cz => (try rw [List.length_append]); (try rw [HTL.out]); (try simp); (try omega)
          intro v4 X4 ow hgr
          have HB4 : Hid (Below W.heap.size W X4) := Below.grown HB3.out hgr HB3.out.size (fun k e9 => (OW3.out.lt _ e9).1)
          have OW4 : Hid (Own3 X4 W.heap.size v4 ((([]) ++ (OUT.take at')) ++ ([(q, s, e)]))) := ow
          clear ow hgr
          refine hK.out _ _ ?_ (fun hHeld2 => ?_)
          · exact HYC.out X4 HB4.out
          clear hK K hHeld
          have hHeld := hHeld2
          clear hHeld2
          try simp only [Act.put, List.setIfInBounds_toArray, List.set_cons_zero, List.set_cons_succ]
          refine wpAnyH_ready (rs := [11]) (by kernel_rfl) (by simp) ?_
          refine AllReadyH.cons (o := ({ dst := some 68, op := Op.call { callee := Callee.builtin Builtin.append, args := #[Operand.tmp 64, Operand.tmp 67], argTypes := #[28, 28] }, type := 28, pos := "ref.go:22", after := #[{ on := 7, ground := Ground.data }, { on := 10, ground := Ground.data }, { on := 7, ground := Ground.chain }], guard := none } : Oper)) rfl (fun K hK => ?_) ?_
          · refine step_app rfl _ _ rfl W.heap.size v4 ((([]) ++ (OUT.take at')) ++ ([(q, s, e)])) rfl OW4.out (if yc = at' then some ⟨g, 0, none⟩ else some ⟨g, at' * 3, none⟩) (n - at') (yc - at') (OUT.drop at') rfl ?cl ?cn ?cw ?cz HB4.out.size ?_
            case cl => exact HDL.out
            case cn => intro e9; split at e9 <;> cases e9
            case cw => intro ad e9; split at e9; (intro j9 u9 h9; rw [HDN.out (by omega)] at h9; simp [fl] at h9); (cases e9; exact HSUF.out X4 HB4.out)
            case cz => have := HTL.out; have := HDL.out; simp only [List.length_append, List.length_cons, List.length_nil] at *; omega
            intro v5 X5 ow hgr
            have HB5 : Hid (Below W.heap.size W X5) := Below.grown HB4.out hgr HB4.out.size (fun k e9 => (OW4.out.lt _ e9).1)
            have OW5 : Hid (Own3 X5 W.heap.size v5 (((([]) ++ (OUT.take at')) ++ ([(q, s, e)])) ++ (OUT.drop at'))) := ow
            clear ow hgr
            refine hK.out _ _ ?_ (fun hHeld2 => ?_)
            · exact HYC.out X5 HB5.out
            clear hK K hHeld
            have hHeld := hHeld2
            clear hHeld2
            try simp only [Act.put, List.setIfInBounds_toArray, List.set_cons_zero, List.set_cons_succ]
            refine wpAnyH_ready (rs := [12]) (by kernel_rfl) (by simp) ?_
            refine AllReadyH.cons (o := ({ dst := some 5, op := Op.assign (Operand.tmp 68), type := 28, pos := "ref.go:22", after := #[{ on := 11, ground := Ground.data }, { on := 11, ground := Ground.chain }, { on := 0, ground := Ground.phase }, { on := 1, ground := Ground.phase }, { on := 2, ground := Ground.phase }, { on := 3, ground := Ground.phase }, { on := 4, ground := Ground.phase }, { on := 5, ground := Ground.phase }, { on := 6, ground := Ground.phase }, { on := 7, ground := Ground.phase }, { on := 8, ground := Ground.phase }, { on := 9, ground := Ground.phase }, { on := 10, ground := Ground.phase }, { on := 11, ground := Ground.phase }], guard := none } : Oper)) rfl (fun K hK => ?_) ?_
            · go_simp
              refine hK.out _ _ ?_ (fun hHeld2 => ?_)
              · exact HYC.out X5 HB5.out
              clear hK K hHeld hHeld2
              try simp only [Act.put, List.setIfInBounds_toArray, List.set_cons_zero, List.set_cons_succ]
              refine wpAnyH_done (by kernel_rfl) ?_ _
              refine NoPanic.normal ?_
              exact HH.out v5 X5 _ _ _ _ _ _ _ _ _ _ _ _ (by have h9 := OW5.out; simpa using h9) HB5.out
            exact AllReadyH.nil
          exact AllReadyH.nil
        exact AllReadyH.nil
      exact AllReadyH.nil
    exact AllReadyH.nil
  exact AllReadyH.nil
end Go.Proofs.YtlidgjkipbijlaaGreatDoor.nrm
end
