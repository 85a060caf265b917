/- Texts that the proof leans on, one behind the other. -/
import Derived.Test.YtlidgjkipbijlaaGreatDoorBdItm1
import Derived.Test.YtlidgjkipbijlaaGreatDoorBdNam1
import Derived.Test.YtlidgjkipbijlaaGreatDoorBdNrm2
import Derived.OrdersHeld
import Derived.Deep.RegionHeld3
import Derived.Test.YtlidgjkipbijlaaGreatDoorBdUtf2

section
/- items.leastStarts. -/
set_option linter.unusedVariables false
set_option linter.unusedSimpArgs false
namespace Go.Proofs.YtlidgjkipbijlaaGreatDoor.itm
open Go.RowKit Go.Shelf lin nrm prp
attribute [local go_sem] Oper.semAt_some

theorem infoInt : (Tryz.prog.info? 3).map (fun i => (i.zero, i.size, i.bytes)) = some (some (.int .i64 0), 1, 8) := by kernel_rfl
/-- In block g lies the row of numbers cs. -/
def PRowN (w : World) (g : Nat) (cs : List Int) : Prop := ∃ cur, w.heap[g]? = some (.cells cur 3 (0, 0)) ∧ cur.toList = cs.map (Value.int .i64)
theorem PRowN.cell {w : World} {g : Nat} {cs : List Int} (h : PRowN w g cs) (j : Nat) : w.cell? ⟨g, j, none⟩ = (cs[j]?).map (Value.int .i64) := by
  obtain ⟨cur, h1, h2⟩ := h
  have := cell_of_row w g j _ _ _ h1
  rw [this, ← Array.getElem?_toList, h2, List.getElem?_map]
theorem PRowN.frozen {w : World} {g : Nat} {cs : List Int} (h : PRowN w g cs) (j : Nat) : w.frozen? ⟨g, j, none⟩ = false := by
  obtain ⟨cur, h1, _⟩ := h
  exact frozen_of_row w g j _ _ h1
theorem PRowN.set {w : World} {g : Nat} {A B : List Int} {y : Int} (h : PRowN w g (A ++ y :: B)) (r : Int) : PRowN (w.setCell ⟨g, A.length, none⟩ (.int .i64 r)) g (A ++ r :: B) := by
  obtain ⟨cur, h1, h2⟩ := h
  have h3 := heap_setCell_same w g A.length _ _ (.int .i64 r) h1
  refine ⟨_, h3, ?_⟩
  rw [Array.toList_setIfInBounds, h2, List.map_append, List.map_append, List.map_cons, List.map_cons]
  rw [List.set_append_right _ _ (by rw [List.length_map]; exact Nat.le_refl _), List.length_map, Nat.sub_self, List.set_cons_zero]
theorem PRowN.kept {w w' : World} {g : Nat} {cs : List Int} (h : PRowN w g cs) (hb : w'.heap[g]? = w.heap[g]?) : PRowN w' g cs := by
  obtain ⟨cur, h1, h2⟩ := h
  exact ⟨cur, hb.trans h1, h2⟩
theorem made_n (n : Nat) : (madeCells #[Value.int .i64 0] n).toList = (List.replicate n (0 : Int)).map (Value.int .i64) := by
  apply List.ext_getElem?
  intro j
  rw [Array.getElem?_toList, List.getElem?_map, List.getElem?_replicate]
  by_cases hj : j < n
  · rw [if_pos hj]
    unfold madeCells
    rw [Array.getElem?_map, Array.getElem?_range, if_pos (by omega)]
    simp only [Option.map_some, Value.cells]
    congr 1
    simp [Nat.mod_one]
  · rw [if_neg hj, Array.getElem?_eq_none (by rw [size_madeCells]; omega)]
    rfl
/-- What holds between the rounds. -/
structure LI (w : World) (g B n : Nat) (e : Int) (l : List nfd.I) (pre : List Elt) (W : World) : Prop where
  row : PRowN W g (List.replicate (n - pre.length) 0 ++ leastL e (l.drop (n - pre.length)))
  box : Boxed W B 35 (.slice (some ⟨g, 0, none⟩) (n + 1) (n + 1))
  low : Below w.heap.size w W
  siz : B < W.heap.size
theorem LI.turns {w A C : World} {g B n : Nat} {e : Int} {l : List nfd.I} {pre : List Elt} {D : Nat → Prop} (h : LI w g B n e l pre A) (t : Turns D A C) (hg : g < A.heap.size) (h1 : ¬ D g) (h2 : ¬ D B) (h3 : ∀ k, D k → w.heap.size ≤ k) : LI w g B n e l pre C :=
  ⟨h.row.kept (t.block g hg h1), t.boxed h.box h2, h.low.trans (t.below h.low.size h3), Nat.lt_of_lt_of_le h.siz t.size⟩
set_option maxRecDepth 1000000 in
set_option maxHeartbeats 4000000 in
theorem least_any (a : Option Addr) (n cap : Nat) (l : List nfd.I) (e : Int) (w : World) (hl : l.length = n) (hv : IVI w (.slice a n cap) l) (hn : n ≤ 100000) (hvb : ∀ k, blk (.slice a n cap) = some k → k < w.heap.size) :
    Calls Tryz.prog 51 #[.slice a n cap, .int .i64 e] w fun ex w' => ∃ v, ex = .returned v ∧ IOwn w' w.heap.size v (leastL e l) ∧ Below w.heap.size w w' := by
  obtain ⟨i0, hi, hz0, hz1, hz2⟩ := rng.info_parts infoInt
  refine callsIn_wide (n := 9) |>.1 ?_
  refine callsIn_of_wp_marks Tryz.func51 rfl trivial ?_ rfl
  simp only [Tryz.ntmps51, List.size_toArray, List.length_cons, List.length_nil, Nat.reduceAdd, Nat.reduceSub, Array.replicate_succ, Array.replicate_zero, List.push_toArray, List.append_toArray, List.nil_append, List.cons_append]
  refine wpIn_wide.2 ?_
  have HIV : Hid (IVI w (.slice a n cap) l) := hv
  have HL : Hid (l.length = n) := hl
  have HVB : Hid (∀ k, blk (.slice a n cap) = some k → k < w.heap.size) := hvb
  have wn : IntKind.i64.wrap ((n : Int) + 1) = ((n + 1 : Nat) : Int) := by rw [IntKind.wrap_i64]; omega
  clear hv hl hvb
  go_wp2_with (refine wpList_make_full w rfl _ _ 35 rfl w.heap.size 3 i0 (.int .i64 0) 1 Tryz.underlying35 hi hz0 hz1 .i64 .i64 _ _ (n + 1) rfl rfl rfl rfl (by rw [hz2]; omega) (by unfold maxLen; omega) (Nat.le_refl _) ?_)
  intro w1 hown1 hgrow1
  obtain ⟨g, hgg⟩ : ∃ g, w.heap.size = g := ⟨_, rfl⟩
  have hsz1 : g < w1.heap.size := by
    rcases hown1.2 with ⟨h0, _⟩ | ⟨g', c2, cur, hv, hg, hgh, _⟩
    · cases h0
    · cases hv; have := (Array.getElem?_eq_some_iff.1 hgh).1; omega
  have hP1 : PRowN w1 g (List.replicate (n + 1) 0) := by
    rcases hown1.2 with ⟨h0, _⟩ | ⟨g', c2, cur, hv, hg, hgh, h3, h4, h5, h6⟩
    · cases h0
    · cases hv
      refine ⟨cur, by rw [← hgg]; exact hgh, ?_⟩
      have hfull : cur.toList.take ((n + 1) * 1) = cur.toList := List.take_of_length_le (by rw [Array.length_toList, h5]; omega)
      rw [hfull] at h6
      exact h6.trans (made_n (n + 1))
  have hB1 : Below w.heap.size w w1 := Below.grown (Below.refl _ _) hgrow1 (Nat.le_refl _) (fun k e => by cases e)
  clear hown1 hgrow1
  rw [hgg]
  obtain ⟨w2, hw2⟩ : ∃ w2, w1.alloc (.cells #[.slice (some ⟨g, 0, none⟩) (n + 1) (n + 1)] 35) = w2 := ⟨_, rfl⟩
  have b12 : Below w1.heap.size w1 w2 := by rw [← hw2]; exact (Below.refl _ w1).alloc (Nat.le_refl _) _
  have hbx2 : Boxed w2 w1.heap.size 35 (.slice (some ⟨g, 0, none⟩) (n + 1) (n + 1)) := by rw [← hw2]; exact World.alloc_heap_new _ _
  have hP2 : PRowN w2 g (List.replicate (n + 1) 0) := hP1.kept (b12.block g hsz1)
  have hP2' := hP2
  rw [show List.replicate (n + 1) (0 : Int) = List.replicate n 0 ++ 0 :: [] from by rw [List.replicate_succ']] at hP2'
  have cz := hP2'.cell n
  have fz := hP2'.frozen n
  rw [List.getElem?_append_right (by simp), List.length_replicate, Nat.sub_self] at cz
  simp at cz
  have hP3 := hP2'.set e
  rw [List.length_replicate] at hP3
  have cb := hbx2.cell
  have hB2 : Below w.heap.size w w2 := hB1.trans (b12.mono hB1.size)
  have hB3 : Below w.heap.size w (w2.setCell ⟨g, n, none⟩ (.int .i64 e)) := hB2.setCell (by show w.heap.size ≤ g; omega) _
  have hgne : w1.heap.size ≠ g := by omega
  have hbx3 : Boxed (w2.setCell ⟨g, n, none⟩ (.int .i64 e)) w1.heap.size 35 (.slice (some ⟨g, 0, none⟩) (n + 1) (n + 1)) := by
    unfold Boxed
    rw [heap_setCell_other w2 ⟨g, n, none⟩ w1.heap.size _ hgne]
    exact hbx2
  have hs3 : (w2.setCell ⟨g, n, none⟩ (.int .i64 e)).heap.size = w1.heap.size + 1 := by rw [show (w2.setCell ⟨g, n, none⟩ (.int .i64 e)).heap.size = w2.heap.size from by simp [World.setCell], ← hw2, World.size_alloc]
  have HG : Hid (w.heap.size = g) := hgg
  have n0 : (0 : Int) ≤ (n : Int) := by omega
  have n1 : (n : Int) < ((n + 1 : Nat) : Int) := by omega
  have HS1 : Hid (g < w1.heap.size) := hsz1
  have HP3 : Hid (PRowN (w2.setCell ⟨g, n, none⟩ (.int .i64 e)) g (List.replicate n 0 ++ [e])) := hP3
  have HB3 : Hid (Below w.heap.size w (w2.setCell ⟨g, n, none⟩ (.int .i64 e))) := hB3
  have HX3 : Hid (Boxed (w2.setCell ⟨g, n, none⟩ (.int .i64 e)) w1.heap.size 35 (.slice (some ⟨g, 0, none⟩) (n + 1) (n + 1))) := hbx3
  have HS3 : Hid ((w2.setCell ⟨g, n, none⟩ (.int .i64 e)).heap.size = w1.heap.size + 1) := hs3
  clear hP1 hP2 hP2' hP3 hB1 hB2 hB3 hbx2 hbx3 b12 hgne hs3 hsz1 hgg
  go_wp2_with fail
  try rw [hw2]
  clear hw2 cz fz cb
  generalize w2.setCell ⟨g, n, none⟩ (.int .i64 e) = w3 at *
  refine (Backward_any _ _ ⟨_, _, _, rfl⟩).mono ?_
  rintro ex w4 ⟨rfl, hw4⟩
  have z4 : w4.heap.size = w3.heap.size + 1 := by rw [hw4]; simp
  have bel4 : Below w3.heap.size w3 w4 := by rw [hw4]; exact (Below.refl _ _).alloc (Nat.le_refl _) _
  have nb : Boxed w4 w3.heap.size 28 (.slice a n cap) := by rw [hw4]; exact World.alloc_heap_new _ _
  clear hw4
  obtain ⟨B, hBq⟩ : ∃ B, w1.heap.size = B := ⟨_, rfl⟩
  obtain ⟨cc, hcq⟩ : ∃ cc, w3.heap.size = cc := ⟨_, rfl⟩
  rw [hBq] at HX3 HS3 HS1 ⊢
  rw [hcq] at z4 bel4 nb HS3 ⊢
  have HSZ : Hid (w.heap.size = g ∧ g < B ∧ cc = B + 1 ∧ w4.heap.size = cc + 1) := ⟨HG.out, HS1.out, HS3.out, z4⟩
  have hI0 : LI w g B n e l [] w4 := by
    obtain ⟨s1, s2, s3, s4⟩ := HSZ.out
    exact ⟨by
      rw [show n - ([] : List Elt).length = n from rfl, show l.drop n = [] from by rw [← HL.out]; exact List.drop_length]
      exact HP3.out.kept (bel4.block g (by omega)), (bel4.block B (by omega)).trans HX3.out, HB3.out.trans (bel4.mono (by rw [s1]; omega)), by omega⟩
  have hiv4 : IVI w4 (.slice a n cap) l := HIV.out.below (HB3.out.trans (bel4.mono (by obtain ⟨s1, s2, s3, s4⟩ := HSZ.out; omega)))
  have GV := back_gives (9 - 1) cc a cap l w4 (by rw [HL.out]; omega) (by rw [HL.out]; exact nb) (by rw [HL.out]; exact hiv4)
  rw [HL.out] at GV
  have hcw : cc < w4.heap.size := by omega
  have hDw : ∀ k, (k = cc ∨ blk (.slice a n cap) = some k) → k < w4.heap.size := fun k hk => by
    obtain ⟨s1, s2, s3, s4⟩ := HSZ.out
    rcases hk with hk | hk
    · omega
    · have := HVB.out k hk; omega
  have hTU : ∀ (s : List Elt) (A C : World), LI w g B n e l s A → Turns (fun k => k = cc ∨ k = w4.heap.size ∨ k = w4.heap.size + 1) A C → LI w g B n e l s C := fun s A C h tr => by
    have hs := h.siz
    obtain ⟨s1, s2, s3, s4⟩ := HSZ.out
    exact h.turns tr (by omega) (fun d => by omega) (fun d => by omega) (fun k d => by omega)
  have HC : Hid (cc < w4.heap.size) := hcw
  have HDW : Hid (∀ k, (k = cc ∨ blk (.slice a n cap) = some k) → k < w4.heap.size) := hDw
  have HTU : Hid (∀ (s : List Elt) (A C : World), LI w g B n e l s A → Turns (fun k => k = cc ∨ k = w4.heap.size ∨ k = w4.heap.size + 1) A C → LI w g B n e l s C) := hTU
  have HGV : Hid (GivesS (9 - 1) Tryz.prog 94 #[.pointer (some ⟨cc, 0, none⟩)] encB (backs l) cc (fun k => k = cc ∨ blk (.slice a n cap) = some k) w4) := GV
  have HI0 : Hid (LI w g B n e l [] w4) := hI0
  clear hcw hDw hTU GV hI0 hiv4 z4 nb bel4 hBq hcq HS3 HS1 HG HX3 HB3 HP3
  go_wp2
  refine wpIn_wide (n := 9) |>.1 ?_
  refine range_ownS (α := Elt) (n := 9) (w := w4) (c := cc) (D := fun k => k = cc ∨ blk (.slice a n cap) = some k) (gf := 94) (lb := #[.pointer (some ⟨cc, 0, none⟩)]) (encs := encB) (xs := backs l) rfl (enters_of Tryz.func94 (by kernel_rfl) rfl) HC.out HDW.out HGV.out (fun _ => rfl)
    (fun pre W => LI w g B n e l pre W) (fun _ _ => False) HTU.out (fun _ A B h t => h)
    HI0.out (fun x => .cells #[.int .i64 x.2.1, .int .i64 x.2.2.1, .int .i64 x.2.2.2] 30)
    (fun x q => { tmps := #[.slice a n cap, .int .i64 e, undef, undef, .slice none 0 0, .pointer (some ⟨B, 0, none⟩), .int .i64 x.1, .pointer (some ⟨q, 0, none⟩), .slice a n cap, .int .i64 (n : Int), .int .i64 ((n : Int) + 1), .slice (some ⟨g, 0, none⟩) (n + 1) (n + 1), .slice (some ⟨g, 0, none⟩) (n + 1) (n + 1), .slice a n cap, .int .i64 (n : Int), .int .i64 e, .pointer (some ⟨g, n, none⟩), .slice a n cap, .func (.func 94) #[] #[.pointer (some ⟨cc, 0, none⟩)], .int .i64 x.1, .agg #[.int .i64 x.2.1, .int .i64 x.2.2.1, .int .i64 x.2.2.2], undef, undef, undef, undef, undef, undef, undef, undef, undef, undef, undef, undef], defers := [] }) ?assign ?body ?done ?stop
  case assign =>
    intro l' x W K hK
    obtain ⟨xi, x1, x2, x3⟩ := x
    simp only [encB] at hK ⊢
    gi_wp2
    exact hK
  case body =>
    intro l' pre x rest q W hx hI hq hq2
    obtain ⟨s1, s2, s3, s4⟩ := HSZ.out
    obtain ⟨hi1, hi2⟩ := backs_at l hx
    obtain ⟨xi, x1, x2, x3⟩ := x
    simp only at hi1 hi2 hq
    rw [HL.out] at hi1
    obtain ⟨row, box, low, siz⟩ := hI
    have ek : n - pre.length = xi + 1 := by omega
    rw [ek] at row
    have hlx : xi + 1 ≤ l.length := by rw [HL.out]; omega
    have row' := row
    rw [List.replicate_succ', List.append_assoc, List.singleton_append] at row'
    have cy := cell_of_row W q 1 _ _ _ hq
    simp at cy
    have cb := box.cell
    have cn : W.cell? ⟨g, xi + 1, none⟩ = some (.int .i64 (lsH e (l.drop (xi + 1)))) := by
      rw [row.cell, List.getElem?_append_right (by simp), List.length_replicate, Nat.sub_self, ← List.head?_eq_getElem?]
      cases hd : l.drop (xi + 1) <;> rfl
    have cx : W.cell? ⟨g, xi, none⟩ = some (.int .i64 0) := by
      rw [row'.cell, List.getElem?_append_right (by simp), List.length_replicate, Nat.sub_self]
      rfl
    have fx := row'.frozen xi
    have hrow := row'.set (min x2 (lsH e (l.drop (xi + 1))))
    rw [List.length_replicate] at hrow
    have hdx : l.drop xi = (x1, x2, x3) :: l.drop (xi + 1) := by
      obtain ⟨hlt, hget⟩ := List.getElem?_eq_some_iff.1 hi2
      rw [List.drop_eq_getElem_cons hlt, hget]
    have HFIN : Hid (∀ V : World, V.heap = W.heap → LI w g B n e l (pre ++ [(xi, x1, x2, x3)]) (V.setCell ⟨g, xi, none⟩ (.int .i64 (min x2 (lsH e (l.drop (xi + 1)))))) ∨ True) := fun V hV => .inr trivial
    have hgB : B ≠ g := by omega
    have hbB : ((W.drew).setCell ⟨g, xi, none⟩ (.int .i64 (min x2 (lsH e (l.drop (xi + 1)))))).heap[B]? = W.heap[B]? := by
      rw [heap_setCell_other W.drew ⟨g, xi, none⟩ B _ hgB]; rfl
    have HLI : Hid (LI w g B n e l (pre ++ [(xi, x1, x2, x3)]) ((W.drew).setCell ⟨g, xi, none⟩ (.int .i64 (min x2 (lsH e (l.drop (xi + 1))))))) := ⟨by
        rw [List.length_append, List.length_singleton, show n - (pre.length + 1) = xi by omega, hdx, least_cons, ls_cons]
        have row2 : PRowN W.drew g (List.replicate xi 0 ++ 0 :: leastL e (l.drop (xi + 1))) := row'.kept rfl
        have := row2.set (min x2 (lsH e (l.drop (xi + 1))))
        rwa [List.length_replicate] at this, hbB.trans box, low.drew.setCell (by show w.heap.size ≤ g; omega) _, by simp [World.setCell]; exact siz⟩
    have HKP : Hid (KeepS (fun k => (k = cc ∨ blk (.slice a n cap) = some k) ∨ k = w4.heap.size ∨ k = w4.heap.size + 1) W ((W.drew).setCell ⟨g, xi, none⟩ (.int .i64 (min x2 (lsH e (l.drop (xi + 1))))))) := fun k hk => by
      have hne : k ≠ g := by
        rcases hk with (hk | hk) | hk | hk
        · omega
        · have := HVB.out k hk; omega
        · omega
        · omega
      rw [heap_setCell_other W.drew ⟨g, xi, none⟩ k _ hne]; rfl
    have HSS : Hid (((W.drew).setCell ⟨g, xi, none⟩ (.int .i64 (min x2 (lsH e (l.drop (xi + 1)))))).cell? ⟨B, 0, none⟩ = some (.slice (some ⟨g, 0, none⟩) (n + 1) (n + 1)) ∧ ((W.drew).setCell ⟨g, xi, none⟩ (.int .i64 (min x2 (lsH e (l.drop (xi + 1)))))).cell? ⟨q, 1, none⟩ = some (.int .i64 x2) ∧ ((W.drew).setCell ⟨g, xi, none⟩ (.int .i64 (min x2 (lsH e (l.drop (xi + 1)))))).cell? ⟨g, xi + 1, none⟩ = some (.int .i64 (lsH e (l.drop (xi + 1))))) := by
      refine ⟨HLI.out.box.cell, ?_, ?_⟩
      · have hqg : q ≠ g := by omega
        have e1 : ((W.drew).setCell ⟨g, xi, none⟩ (.int .i64 (min x2 (lsH e (l.drop (xi + 1)))))).heap[q]? = some (.cells #[.int .i64 x1, .int .i64 x2, .int .i64 x3] 30 (0, 0)) := by
          rw [heap_setCell_other W.drew ⟨g, xi, none⟩ q _ hqg]; exact hq
        have := cell_of_row _ q 1 _ _ _ e1
        simpa using this
      · have r2 := HLI.out.row
        rw [List.length_append, List.length_singleton, show n - (pre.length + 1) = xi by omega, hdx, least_cons] at r2
        rw [r2.cell, List.getElem?_append_right (by simp), List.length_replicate, show xi + 1 - xi = 1 by omega, List.getElem?_cons_succ, ← List.head?_eq_getElem?]
        cases hd : l.drop (xi + 1) <;> rfl
    obtain ⟨z, hz⟩ : ∃ z : Nat, z = xi + 1 := ⟨_, rfl⟩
    rw [← hz] at cn HSS
    have xi0 : (0 : Int) ≤ (xi : Int) := by omega
    have xi1 : (xi : Int) < (n : Int) + 1 := by omega
    have xi2 : IntKind.i64.wrap ((xi : Int) + 1) = (z : Int) := by rw [IntKind.wrap_i64]; omega
    have xi3 : (z : Int) < (n : Int) + 1 := by omega
    have xi4 : (0 : Int) ≤ (z : Int) := by omega
    rw [← hz] at HLI HKP
    rw [← hz] at hrow
    have HZ : Hid (z = xi + 1) := hz
    generalize lsH e (l.drop z) = m at *
    clear hz row row' hrow hdx hx hi1 hi2 hq HFIN box low hbB hlx s1 s2 s3 s4 hq2 ek hgB siz
    gi_wp2
    refine wpIn_mono (Q := NoPanic _) ?_ NoPanic.imp
    refine nam.wpIn_region_round (S := fun w' => w'.cell? ⟨B, 0, none⟩ = some (.slice (some ⟨g, 0, none⟩) (n + 1) (n + 1)) ∧ w'.cell? ⟨q, 1, none⟩ = some (.int .i64 x2) ∧ w'.cell? ⟨g, z, none⟩ = some (.int .i64 m)) (by kernel_rfl) (by kernel_rfl) (by rintro ⟨a, u, h⟩; exact h) ?_ (fun hHeld => ?_)
    · exact ⟨by simpa using cb, by simpa using cy, by simpa using cn⟩
    refine wpAnyH_take (i := 0) (v := ?_) rfl (by kernel_rfl) (by kernel_rfl) (by kernel_rfl) (fun _ _ _ h => h) (Or.inl ⟨by rfl, ?_⟩) (by assumption) ?_
    rotate_left
    · (intro w' hSw; (try dsimp only at hSw); go_simp; try with_reducible rfl)
    try simp only [Act.put, List.getElem_toArray, List.getElem_cons_zero, List.getElem_cons_succ, List.setIfInBounds_toArray, List.set_cons_zero, List.set_cons_succ]
    refine wpAnyH_take (i := 1) (v := ?_) rfl (by kernel_rfl) (by kernel_rfl) (by kernel_rfl) (fun _ _ _ h => h) (Or.inl ⟨by rfl, ?_⟩) (by assumption) ?_
    rotate_left
    · (intro w' hSw; (try dsimp only at hSw); go_simp; try with_reducible rfl)
    try simp only [Act.put, List.getElem_toArray, List.getElem_cons_zero, List.getElem_cons_succ, List.setIfInBounds_toArray, List.set_cons_zero, List.set_cons_succ]
    refine wpAnyH_take (i := 2) (v := ?_) rfl (by kernel_rfl) (by kernel_rfl) (by kernel_rfl) (fun _ _ _ h => h) (Or.inl ⟨by rfl, ?_⟩) (by assumption) ?_
    rotate_left
    · (intro w' hSw; (try dsimp only at hSw); go_simp; try with_reducible rfl)
    try simp only [Act.put, List.getElem_toArray, List.getElem_cons_zero, List.getElem_cons_succ, List.setIfInBounds_toArray, List.set_cons_zero, List.set_cons_succ]
    refine wpAnyH_take (i := 3) (v := ?_) rfl (by kernel_rfl) (by kernel_rfl) (by kernel_rfl) (fun _ _ _ h => h) (Or.inl ⟨by rfl, ?_⟩) (by assumption) ?_
    rotate_left
    · (intro w' hSw; (try dsimp only at hSw); go_simp; try with_reducible rfl)
    try simp only [Act.put, List.getElem_toArray, List.getElem_cons_zero, List.getElem_cons_succ, List.setIfInBounds_toArray, List.set_cons_zero, List.set_cons_succ]
    refine wpAnyH_take (i := 4) (v := ?_) rfl (by kernel_rfl) (by kernel_rfl) (by kernel_rfl) (fun _ _ _ h => h) (Or.inl ⟨by rfl, ?_⟩) (by assumption) ?_
    rotate_left
    · (intro w' hSw; (try dsimp only at hSw); go_simp; try with_reducible rfl)
    try simp only [Act.put, List.getElem_toArray, List.getElem_cons_zero, List.getElem_cons_succ, List.setIfInBounds_toArray, List.set_cons_zero, List.set_cons_succ]
    refine wpAnyH_take (i := 5) (v := ?_) rfl (by kernel_rfl) (by kernel_rfl) (by kernel_rfl) (fun _ _ _ h => h) (Or.inl ⟨by rfl, ?_⟩) (by assumption) ?_
    rotate_left
    · (intro w' hSw; (try dsimp only at hSw); go_simp; try with_reducible rfl)
    try simp only [Act.put, List.getElem_toArray, List.getElem_cons_zero, List.getElem_cons_succ, List.setIfInBounds_toArray, List.set_cons_zero, List.set_cons_succ]
    refine wpAnyH_take (i := 6) (v := ?_) rfl (by kernel_rfl) (by kernel_rfl) (by kernel_rfl) (fun _ _ _ h => h) (Or.inl ⟨by rfl, ?_⟩) (by assumption) ?_
    rotate_left
    · (intro w' hSw; (try dsimp only at hSw); go_simp; try with_reducible rfl)
    try simp only [Act.put, List.getElem_toArray, List.getElem_cons_zero, List.getElem_cons_succ, List.setIfInBounds_toArray, List.set_cons_zero, List.set_cons_succ]
    refine wpAnyH_take (i := 7) (v := ?_) rfl (by kernel_rfl) (by kernel_rfl) (by kernel_rfl) (fun _ _ _ h => h) (Or.inl ⟨by rfl, ?_⟩) (by assumption) ?_
    rotate_left
    · (intro w' hSw; (try dsimp only at hSw); go_simp; try with_reducible rfl)
    try simp only [Act.put, List.getElem_toArray, List.getElem_cons_zero, List.getElem_cons_succ, List.setIfInBounds_toArray, List.set_cons_zero, List.set_cons_succ]
    refine wpAnyH_take (i := 8) (v := ?_) rfl (by kernel_rfl) (by kernel_rfl) (by kernel_rfl) (fun _ _ _ h => h) (Or.inl ⟨by rfl, ?_⟩) (by assumption) ?_
    rotate_left
    · (intro w' hSw; (try dsimp only at hSw); go_simp; try with_reducible rfl)
    try simp only [Act.put, List.getElem_toArray, List.getElem_cons_zero, List.getElem_cons_succ, List.setIfInBounds_toArray, List.set_cons_zero, List.set_cons_succ]
    refine wpAnyH_take (i := 9) (v := ?_) rfl (by kernel_rfl) (by kernel_rfl) (by kernel_rfl) (fun _ _ _ h => h) (Or.inl ⟨by rfl, ?_⟩) (by assumption) ?_
    rotate_left
    · (intro w' hSw; (try dsimp only at hSw); go_simp; try with_reducible rfl)
    try simp only [Act.put, List.getElem_toArray, List.getElem_cons_zero, List.getElem_cons_succ, List.setIfInBounds_toArray, List.set_cons_zero, List.set_cons_succ]
    refine wpAnyH_take (i := 10) (v := ?_) rfl (by kernel_rfl) (by kernel_rfl) (by kernel_rfl) (fun _ _ _ h => h) (Or.inl ⟨by rfl, ?_⟩) (by assumption) ?_
    rotate_left
    · (intro w' hSw; (try dsimp only at hSw); go_simp; try with_reducible rfl)
    try simp only [Act.put, List.getElem_toArray, List.getElem_cons_zero, List.getElem_cons_succ, List.setIfInBounds_toArray, List.set_cons_zero, List.set_cons_succ]
    have cx' : (W.drew).cell? ⟨g, xi, none⟩ = some (.int .i64 0) := by simpa using cx
    have fx' : (W.drew).frozen? ⟨g, xi, none⟩ = false := by simpa using fx
    refine wpAnyH_ready (rs := [11]) (by kernel_rfl) (by simp) ?_
    refine AllReadyH.cons rfl (fun K hK => ?_) AllReadyH.nil
    try simp only [Act.put, List.getElem_toArray, List.getElem_cons_zero, List.getElem_cons_succ, List.setIfInBounds_toArray, List.set_cons_zero, List.set_cons_succ]
    go_simp
    refine hK.out _ _ HSS.out (fun hHeld2 => ?_)
    clear hK K hHeld
    try simp only [Act.put, List.getElem_toArray, List.getElem_cons_zero, List.getElem_cons_succ, List.setIfInBounds_toArray, List.set_cons_zero, List.set_cons_succ]
    refine wpAnyH_done (by kernel_rfl) ?_ _
    refine NoPanic.normal ?_
    exact ⟨HKP.out, HLI.out⟩
  case done =>
    intro W hI hd
    have HT : Hid (IOwn (W.putObj w4.heap.size (.deferred none)) w.heap.size (.slice (some ⟨g, 0, none⟩) (n + 1) (n + 1)) (leastL e l) ∧ Below w.heap.size w (W.putObj w4.heap.size (.deferred none))) := by
      obtain ⟨s1, s2, s3, s4⟩ := HSZ.out
      have hsz := hI.siz
      have tp : Turns (fun k => k = w4.heap.size) W (W.putObj w4.heap.size (.deferred none)) := Turns.put (D := fun k => k = w4.heap.size) (Turns.refl _ W) w4.heap.size _ rfl
      have r := hI.row
      rw [backs_len, HL.out, Nat.sub_self, List.replicate_zero, List.nil_append, List.drop_zero] at r
      obtain ⟨cur, c1, c2⟩ := r.kept (tp.block g (by omega) (fun d => by omega))
      have hlen : (leastL e l).length = n + 1 := by rw [least_len, HL.out]
      have hcs : cur.size = n + 1 := by rw [← Array.length_toList, c2, List.length_map, hlen]
      refine ⟨⟨by rw [List.length_map, Nat.mul_one], .inr ⟨g, n + 1, cur, by rw [hlen], by omega, c1, by rw [hlen]; exact Nat.le_refl _, by unfold maxLen; omega, by omega, ?_⟩⟩, hI.low.trans (tp.below hI.low.size (fun k d => by omega))⟩
      rw [← c2]
      exact List.take_of_length_le (by rw [Array.length_toList, hcs, hlen]; omega)
    have cb := hI.box.cell
    clear hI
    go_wp2
    refine ⟨by simp, .inl ⟨_, _, rfl, run_takeDeferred hd, ?_⟩⟩
    exact ⟨_, results_tmp (t := 4) rfl _ _ _, _, rfl, HT.out⟩
  case stop =>
    intro pre W hI hd
    exact hI.elim
end Go.Proofs.YtlidgjkipbijlaaGreatDoor.itm
end

section
/- items.New: a subject in memory. -/
set_option linter.unusedVariables false
set_option linter.unusedSimpArgs false
namespace Go.Proofs.YtlidgjkipbijlaaGreatDoor.itm
open Go.RowKit Go.Shelf nrm prp
open Go.Proofs.YtlidgjkipbijlaaGreatDoor.utf (IsB lst)

/-- The items of bytes. -/
def decI (f : Nat → Int) (n : Nat) : List nfd.I := (utf.items f n 0).map fun x => (x.1, (x.2.1 : Int), (x.2.2 : Int))
/-- The items of a subject. -/
def itemsL (c : Bool) (f : Nat → Int) (n : Nat) : List nfd.I := if c then nfdI (decI f n) else decI f n
theorem dec_len (f : Nat → Int) (n : Nat) : (decI f n).length ≤ n := by
  unfold decI
  rw [List.length_map]
  have : ∀ m a, n - a = m → (utf.items f n a).length ≤ n - a := by
    intro m
    induction m using Nat.strongRecOn with
    | ind m ih =>
      intro a ha
      by_cases h : a < n
      · rw [utf.items_step f n a h, List.length_cons]
        have hr := utf.it_end f n a h
        have := ih (n - (utf.it f n a).2.1) (by omega) _ rfl
        omega
      · rw [utf.items_end f n a (by omega)]; exact Nat.zero_le _
  have := this n 0 rfl
  omega
theorem dec_mem (f : Nat → Int) (n : Nat) (hf : ∀ i, 0 ≤ f i ∧ f i ≤ 255) : ∀ m a, n - a = m → ∀ x ∈ utf.items f n a, a ≤ x.2.1 ∧ x.2.1 < x.2.2 ∧ x.2.2 ≤ n ∧ utf.len x.1 ≠ 0 := by
  intro m
  induction m using Nat.strongRecOn with
  | ind m ih =>
    intro a ha x hx
    by_cases h : a < n
    · rw [utf.items_step f n a h] at hx
      have hr := utf.it_end f n a h
      rcases List.mem_cons.1 hx with rfl | hx
      · exact ⟨Nat.le_refl _, hr.1, hr.2.1, utf.it_len f n a hf⟩
      · have := ih (n - (utf.it f n a).2.1) (by omega) _ rfl x hx
        exact ⟨by omega, this.2⟩
    · rw [utf.items_end f n a (by omega)] at hx
      cases hx
theorem dec_fine (f : Nat → Int) (n : Nat) (hf : ∀ i, 0 ≤ f i ∧ f i ≤ 255) : Fine n (decI f n) := fun y hy => by
  obtain ⟨x, hx, rfl⟩ := List.mem_map.1 hy
  have := dec_mem f n hf n 0 rfl x hx
  exact ⟨by simp only; omega, by simp only; omega, by simp only; omega⟩
theorem dec_ok (f : Nat → Int) (n : Nat) (hf : ∀ i, 0 ≤ f i ∧ f i ≤ 255) : ∀ y ∈ decI f n, okI y.1 := fun y hy => by
  obtain ⟨x, hx, rfl⟩ := List.mem_map.1 hy
  have h := utf.len_cases x.1 (dec_mem f n hf n 0 rfl x hx).2.2.2
  unfold okI
  simp only
  omega
theorem items_fine (c : Bool) (f : Nat → Int) (n : Nat) (hf : ∀ i, 0 ≤ f i ∧ f i ≤ 255) : Fine n (itemsL c f n) := by
  cases c
  · exact dec_fine f n hf
  · exact fine_nfd (dec_fine f n hf)
theorem nfd_len (l : List nfd.I) : (nfdI l).length ≤ l.length * 9 := by unfold nfdI; rw [nfd.len_ordL]; exact apL_len l
theorem items_len (c : Bool) (f : Nat → Int) (n : Nat) : (itemsL c f n).length ≤ n * 9 := by
  have h := dec_len f n
  cases c
  · show (decI f n).length ≤ _; omega
  · show (nfdI (decI f n)).length ≤ _
    have := nfd_len (decI f n)
    omega
theorem fl_dec (f : Nat → Int) (n : Nat) : fl (decI f n) = utf.flat (utf.items f n 0) := by
  unfold decI fl utf.flat
  rw [List.flatMap_map]
  rfl
theorem own3_dec {w : World} {B n : Nat} {f : Nat → Int} {v : Value} (h : w.ownsRow B 30 3 v (utf.items f n 0).length (utf.flat (utf.items f n 0))) : Own3 w B v (decI f n) := by
  unfold Own3
  rw [fl_dec, show (decI f n).length = (utf.items f n 0).length from by unfold decI; rw [List.length_map]]
  exact h
theorem blk_own (v : Value) : blk v = v.ownBlock := by
  cases v with
  | slice a n c => cases a <;> rfl
  | _ => rfl
theorem clone_own (ao : Option Addr) (n cap : Nat) (f : Nat → Int) (w : World) (hB : IsB w ao n f) (hnil : ao = none → n = 0) (hn : n ≤ 140737488355328) :
    Calls Tryz.prog 29 #[.slice ao n cap] w fun e w' => ∃ v, e = .returned v ∧ w'.ownsRow w.heap.size 5 1 v n ((lst f n).map (Value.int .u8)) ∧ Below w.heap.size w w' := by
  cases ao with
  | none =>
    obtain rfl := hnil rfl
    refine (utf.clone_nil cap w).mono ?_
    rintro e w' ⟨rfl, rfl⟩
    exact ⟨_, rfl, World.ownsRow_nil _ _ _ _, Below.refl _ _⟩
  | some ad => exact utf.clone_some ad n cap f w hB hn
/-- In block x lies a subject of the n bytes f, with the items l; all that it holds lies from base on. -/
structure TxtIs (W : World) (base x n : Nat) (f : Nat → Int) (l : List nfd.I) : Prop where
  low : base ≤ x
  all : ∃ bv iv lv, W.heap[x]? = some (.cells #[bv, iv, lv] 68 (0, 0)) ∧ W.ownsRow base 5 1 bv n ((lst f n).map (Value.int .u8)) ∧ Own3 W base iv l ∧ IOwn W base lv (leastL n l)
theorem TxtIs.below {W W' : World} {base x n : Nat} {f : Nat → Int} {l : List nfd.I} (h : TxtIs W base x n f l) (hb : Below W.heap.size W W') : TxtIs W' base x n f l := by
  obtain ⟨bv, iv, lv, h1, h2, h3, h4⟩ := h.all
  exact ⟨h.low, bv, iv, lv, (hb.block x (Array.getElem?_eq_some_iff.1 h1).1).trans h1, lin.own_below h2 hb, h3.below hb, lin.own_below h4 hb⟩
/-- What was changed below the base plays no part. -/
theorem TxtIs.turns {W W' : World} {base x n : Nat} {f : Nat → Int} {l : List nfd.I} {D : Nat → Prop} (h : TxtIs W base x n f l) (t : lin.Turns D W W') (hD : ∀ k, D k → k < base) : TxtIs W' base x n f l := by
  obtain ⟨bv, iv, lv, h1, h2, h3, h4⟩ := h.all
  have hl := h.low
  exact ⟨h.low, bv, iv, lv, (t.block x (Array.getElem?_eq_some_iff.1 h1).1 (fun d => by have := hD _ d; omega)).trans h1, t.own h2 (fun k e d => by have := (h2.lt k e).1; have := hD _ d; omega), t.own h3 (fun k e d => by have := (h3.lt k e).1; have := hD _ d; omega), t.own h4 (fun k e d => by have := (h4.lt k e).1; have := hD _ d; omega)⟩
theorem cat_zero : sF [67, 110] catL 0 = [67, 99] := by decide +kernel
set_option maxHeartbeats 1000000 in
set_option maxRecDepth 1000000 in
/-- From the items on. -/
theorem own_low {w : World} {b e size n : Nat} {v : Value} {xs : List Value} {B : Nat} (h : w.ownsRow B e size v n xs) (hb : b ≤ B) : w.ownsRow b e size v n xs := by
  refine ⟨h.1, ?_⟩
  rcases h.2 with h | ⟨g, cap, cur, rfl, hg, r⟩
  · exact .inl h
  · exact .inr ⟨g, cap, cur, rfl, by omega, r⟩
set_option maxHeartbeats 1000000 in
set_option maxRecDepth 1000000 in
theorem new_t (t : Nat) (ao : Option Addr) (n cap : Nat) (f : Nat → Int) (c : Bool) (w : World) (h : Tabs w t) (hB : IsB w ao n f) (hnil : ao = none → n = 0) (hn : n ≤ 1000) (hf : ∀ i, 0 ≤ f i ∧ f i ≤ 255) :
    Calls Tryz.prog 30 #[.pointer (some ⟨t, 0, none⟩), .slice ao n cap, .bool c] w fun e w' => ∃ x, e = .returned (.tuple #[.pointer (some ⟨x, 0, none⟩), .int .i64 0]) ∧ TxtIs w' w.heap.size x n f (itemsL c f n) ∧ Below w.heap.size w w' := by
  have C := category_t t 0 w h
  rw [cat_zero] at C
  have hq : (lin.BA [67, 99]).toList = [67, 99] := by rw [Lib.toList_data, lin.BA_data]
  have HT : Hid (Tabs w t) := h
  have HBB : Hid (IsB w ao n f) := hB
  have HNI : Hid (ao = none → n = 0) := hnil
  have HF : Hid (∀ i, 0 ≤ f i ∧ f i ≤ 255) := hf
  have HIL : Hid ((itemsL c f n).length ≤ 9000) := by show _ ≤ _; have := items_len c f n; omega
  have HDL : Hid ((decI f n).length ≤ 1000) := by show _ ≤ _; have := dec_len f n; omega
  have HDO : Hid (∀ y ∈ decI f n, okI y.1) := dec_ok f n hf
  have HITF : Hid (itemsL false f n = decI f n) := rfl
  have HITT : Hid (itemsL true f n = nfdI (decI f n)) := rfl
  clear h hB hnil hf
  -- behind the items
  have HEND : Hid (∀ (W : World) (v : Value), Below w.heap.size w W → Own3 W w.heap.size v (itemsL c f n) → ∃ ia ic, v = .slice ia (itemsL c f n).length ic ∧ Calls Tryz.prog 51 #[.slice ia (itemsL c f n).length ic, .int .i64 (n : Int)] W fun ex w' => ∃ v, ex = .returned v ∧ IOwn w' W.heap.size v (leastL n (itemsL c f n)) ∧ Below W.heap.size W w') := fun W v hb ho => by
    obtain ⟨ia, ic, rfl⟩ := lin.own_slice ho
    refine ⟨ia, ic, rfl, least_any ia _ ic (itemsL c f n) n W rfl ho.iv (by have := HIL.out; omega) (fun k e => ?_)⟩
    rw [blk_own] at e
    exact (ho.lt k e).2
  go_enter Tryz.func30, Tryz.ntmps30
  go_wp2_with fail
  refine C.mono ?_
  rintro e w1 ⟨rfl, b1⟩
  clear C
  have HB1 : Hid (Below w.heap.size w w1) := b1
  have C := utf.decode_any ao n cap f w1 (HBB.out.below b1) (by omega) HF.out
  clear b1
  go_wp2_with fail
  refine C.mono ?_
  rintro e w2 ⟨v2, rfl, o2, b2⟩
  clear C
  have HB2 : Hid (Below w.heap.size w w2) := HB1.out.trans (b2.mono HB1.out.size)
  have HO2 : Hid (Own3 w2 w.heap.size v2 (decI f n)) := own_low (own3_dec o2) HB1.out.size
  clear o2 b2 HB1 hq
  cases c with
  | false =>
    rw [HITF.out] at HEND
    obtain ⟨sa, sc, rfl⟩ := lin.own_slice HO2.out
    have C := clone_own ao n cap f w2 (HBB.out.below HB2.out) HNI.out (by omega)
    go_wp2_with fail
    refine C.mono ?_
    rintro e w3 ⟨bv, rfl, o3, b3⟩
    clear C
    have HB3 : Hid (Below w.heap.size w w3) := HB2.out.trans (b3.mono HB2.out.size)
    have HO3 : Hid (Own3 w3 w.heap.size (.slice sa (decI f n).length sc) (decI f n)) := HO2.out.below b3
    have HV3 : Hid (w3.ownsRow w.heap.size 5 1 bv n ((lst f n).map (Value.int .u8))) := own_low o3 HB2.out.size
    obtain ⟨ba, bc, rfl⟩ := lin.own_slice o3
    clear o3 b3 HB2 HO2
    obtain ⟨ia, ic, e1, C⟩ := HEND.out w3 _ HB3.out HO3.out
    injection e1 with e1 e2 e3
    subst e1 e3
    clear e2
    generalize hN : (decI f n).length = N at *
    go_wp2_with fail
    refine C.mono ?_
    rintro e w4 ⟨lv, rfl, o4, b4⟩
    clear C
    have HB4 : Hid (Below w.heap.size w w4) := HB3.out.trans (b4.mono HB3.out.size)
    have HO4 : Hid (Own3 w4 w.heap.size (.slice sa N sc) (decI f n)) := HO3.out.below b4
    have HV4 : Hid (w4.ownsRow w.heap.size 5 1 (.slice ba n bc) n ((lst f n).map (Value.int .u8))) := lin.own_below HV3.out b4
    have HL4 : Hid (IOwn w4 w.heap.size lv (leastL n (decI f n))) := own_low o4 HB3.out.size
    obtain ⟨la, lc, rfl⟩ := lin.own_slice o4
    clear o4 b4 HB3 HO3 HV3
    generalize hM : (leastL (n : Int) (decI f n)).length = M at *
    have HFIN : Hid (TxtIs (w4.alloc (.cells #[.slice ba n bc, .slice sa N sc, .slice la M lc] 68)) w.heap.size w4.heap.size n f (decI f n) ∧ Below w.heap.size w (w4.alloc (.cells #[.slice ba n bc, .slice sa N sc, .slice la M lc] 68))) := by
      have ba' : Below w4.heap.size w4 (w4.alloc (.cells #[.slice ba n bc, .slice sa N sc, .slice la M lc] 68)) := (Below.refl _ w4).alloc (Nat.le_refl _) _
      exact ⟨⟨HB4.out.size, _, _, _, World.alloc_heap_new _ _, lin.own_below HV4.out ba', HO4.out.below ba', lin.own_below HL4.out ba'⟩, HB4.out.trans (ba'.mono HB4.out.size)⟩
    clear HO4 HV4 HL4 HB4
    go_wp2
    go_ret2
    exact ⟨_, rfl, HFIN.out⟩
  | true =>
    rw [HITT.out] at HEND
    obtain ⟨sa0, sc0, rfl⟩ := lin.own_slice HO2.out
    have C := items_any t _ (decI f n) w2 (HT.out.below HB2.out) HO2.out.iv HDO.out (by have := HDL.out; omega)
    generalize hN0 : (decI f n).length = N0 at *
    go_wp2_with fail
    refine C.mono ?_
    rintro e wn ⟨vn, rfl, on, bn⟩
    clear C
    have HBn : Hid (Below w.heap.size w wn) := HB2.out.trans (bn.mono HB2.out.size)
    have HOn : Hid (Own3 wn w.heap.size vn (nfdI (decI f n))) := own_low on HB2.out.size
    clear on bn HB2 HO2
    obtain ⟨sa, sc, rfl⟩ := lin.own_slice HOn.out
    have C := clone_own ao n cap f wn (HBB.out.below HBn.out) HNI.out (by omega)
    go_wp2_with fail
    refine C.mono ?_
    rintro e w3 ⟨bv, rfl, o3, b3⟩
    clear C
    have HB3 : Hid (Below w.heap.size w w3) := HBn.out.trans (b3.mono HBn.out.size)
    have HO3 : Hid (Own3 w3 w.heap.size (.slice sa (nfdI (decI f n)).length sc) (nfdI (decI f n))) := HOn.out.below b3
    have HV3 : Hid (w3.ownsRow w.heap.size 5 1 bv n ((lst f n).map (Value.int .u8))) := own_low o3 HBn.out.size
    obtain ⟨ba, bc, rfl⟩ := lin.own_slice o3
    clear o3 b3 HBn HOn
    obtain ⟨ia, ic, e1, C⟩ := HEND.out w3 _ HB3.out HO3.out
    injection e1 with e1 e2 e3
    subst e1 e3
    clear e2
    generalize hN : (nfdI (decI f n)).length = N at *
    go_wp2_with fail
    refine C.mono ?_
    rintro e w4 ⟨lv, rfl, o4, b4⟩
    clear C
    have HB4 : Hid (Below w.heap.size w w4) := HB3.out.trans (b4.mono HB3.out.size)
    have HO4 : Hid (Own3 w4 w.heap.size (.slice sa N sc) (nfdI (decI f n))) := HO3.out.below b4
    have HV4 : Hid (w4.ownsRow w.heap.size 5 1 (.slice ba n bc) n ((lst f n).map (Value.int .u8))) := lin.own_below HV3.out b4
    have HL4 : Hid (IOwn w4 w.heap.size lv (leastL n (nfdI (decI f n)))) := own_low o4 HB3.out.size
    obtain ⟨la, lc, rfl⟩ := lin.own_slice o4
    clear o4 b4 HB3 HO3 HV3
    generalize hM : (leastL (n : Int) (nfdI (decI f n))).length = M at *
    have HFIN : Hid (TxtIs (w4.alloc (.cells #[.slice ba n bc, .slice sa N sc, .slice la M lc] 68)) w.heap.size w4.heap.size n f (nfdI (decI f n)) ∧ Below w.heap.size w (w4.alloc (.cells #[.slice ba n bc, .slice sa N sc, .slice la M lc] 68))) := by
      have ba' : Below w4.heap.size w4 (w4.alloc (.cells #[.slice ba n bc, .slice sa N sc, .slice la M lc] 68)) := (Below.refl _ w4).alloc (Nat.le_refl _) _
      exact ⟨⟨HB4.out.size, _, _, _, World.alloc_heap_new _ _, lin.own_below HV4.out ba', HO4.out.below ba', lin.own_below HL4.out ba'⟩, HB4.out.trans (ba'.mono HB4.out.size)⟩
    clear HO4 HV4 HL4 HB4
    go_wp2
    go_ret2
    exact ⟨_, rfl, HFIN.out⟩
end Go.Proofs.YtlidgjkipbijlaaGreatDoor.itm
end
