/- Texts that the proof leans on, one behind the other. -/
import Derived.Test.YtlidgjkipbijlaaGreatDoorBdItm2
import Derived.Test.YtlidgjkipbijlaaGreatDoorBdNrm4
import Derived.Test.YtlidgjkipbijlaaGreatDoorBdSch1
import Derived.OrdersHeld
import Derived.Deep.RegionHeld3
import Derived.Test.YtlidgjkipbijlaaGreatDoorBdUtf1
import Derived.Laws.AppendOwnNone

section
/- made, Items, Runes, Bytes, After of a subject. -/
set_option linter.unusedVariables false
set_option linter.unusedSimpArgs false
namespace Go.Proofs.YtlidgjkipbijlaaGreatDoor.itm
open Go.RowKit Go.Shelf nrm prp
open Go.Proofs.YtlidgjkipbijlaaGreatDoor.utf (IsB lst)

theorem own_some {w : World} {b e size n : Nat} {v : Value} {xs : List Value} (h : w.ownsRow b e size v n xs) (hn : 0 < n) : ∃ g cap, v = .slice (some ⟨g, 0, none⟩) n cap ∧ n ≤ cap ∧ cap ≤ 9223372036854775807 := by
  rcases h.2 with ⟨_, h0⟩ | ⟨g, cap, cur, rfl, _, _, hc, hm, _⟩
  · omega
  · unfold maxLen at hm; exact ⟨g, cap, rfl, hc, by omega⟩
theorem own_nil {w : World} {b e size n cap : Nat} {a : Option Addr} {xs : List Value} (h : w.ownsRow b e size (.slice a n cap) n xs) : a = none → n = 0 ∧ cap = 0 := fun ha => by
  rcases h.2 with ⟨h1, h0⟩ | ⟨g, cap, cur, h1, _⟩
  · injection h1 with e1 e2 e3; exact ⟨h0, e3⟩
  · injection h1 with e1 e2 e3; rw [ha] at e1; cases e1
set_option maxRecDepth 1000000 in
theorem made_t (x base n : Nat) (f : Nat → Int) (l : List nfd.I) (w : World) (h : TxtIs w base x n f l) :
    Calls Tryz.prog 33 #[.pointer (some ⟨x, 0, none⟩)] w fun e w' => e = .returned (.bool true) ∧ w' = w := by
  obtain ⟨bv, iv, lv, h1, h2, h3, h4⟩ := h.all
  have hlen : (leastL (n : Int) l).length = l.length + 1 := least_len _ _
  obtain ⟨g, cap, rfl, _, _⟩ := own_some h4 (by rw [hlen]; omega)
  rw [hlen] at h1
  have c2 := cell_of_row w x 2 _ _ _ h1
  simp at c2
  have hpos : (0 : Int) < (l.length : Int) + 1 := by omega
  clear h h1 h2 h3 h4 hlen
  generalize l.length = N at *
  go_enter Tryz.func33, Tryz.ntmps33
  go_wp2
  go_ret
  exact ⟨rfl, rfl⟩
set_option maxHeartbeats 1000000 in
set_option maxRecDepth 1000000 in
theorem items_t (x base n : Nat) (f : Nat → Int) (l : List nfd.I) (w : World) (h : TxtIs w base x n f l) (hl : l.length ≤ 100000) :
    Calls Tryz.prog 11 #[.pointer (some ⟨x, 0, none⟩)] w fun e w' => ∃ v, e = .returned v ∧ IVI w' v l ∧ Below w.heap.size w w' := by
  have C := made_t x base n f l w h
  obtain ⟨bv, iv, lv, h1, h2, h3, h4⟩ := h.all
  obtain ⟨ia, ic, rfl⟩ := lin.own_slice h3
  have c1 := cell_of_row w x 1 _ _ _ h1
  simp at c1
  have HC : Hid (Calls Tryz.prog 34 #[.slice ia l.length ic] w fun e w' => ∃ v, e = .returned v ∧ Own3 w' w.heap.size v l ∧ Below w.heap.size w w') := itclone_any ia l.length ic l w h3.iv rfl (own_nil h3) (by omega)
  clear h h1 h2 h3 h4
  generalize l.length = N at *
  go_enter Tryz.func11, Tryz.ntmps11
  go_wp2_with fail
  refine C.mono ?_
  rintro e w1 ⟨rfl, hw⟩
  rw [hw]
  clear C hw w1
  have C := HC.out
  go_wp2_with fail
  refine C.mono ?_
  rintro e w2 ⟨v, rfl, ov, b2⟩
  clear C
  have HR : Hid (IVI w2 v l ∧ Below w.heap.size w w2) := ⟨ov.iv, b2⟩
  clear ov b2
  go_wp2
  go_ret
  exact ⟨_, rfl, HR.out⟩
set_option maxHeartbeats 1000000 in
set_option maxRecDepth 1000000 in
theorem bytes_t (x base n : Nat) (f : Nat → Int) (l : List nfd.I) (w : World) (h : TxtIs w base x n f l) (hn : n ≤ 100000) :
    Calls Tryz.prog 16 #[.pointer (some ⟨x, 0, none⟩)] w fun e w' => ∃ ao cap, e = .returned (.slice ao n cap) ∧ IsB w' ao n f ∧ (ao = none → n = 0) ∧ Below w.heap.size w w' := by
  have C := made_t x base n f l w h
  obtain ⟨bv, iv, lv, h1, h2, h3, h4⟩ := h.all
  obtain ⟨ba, bc, rfl, hib, _, _, hnb⟩ := utf.isB_own h2
  have c0 := cell_of_row w x 0 _ _ _ h1
  simp at c0
  have HC : Hid (Calls Tryz.prog 29 #[.slice ba n bc] w fun e w' => ∃ v, e = .returned v ∧ w'.ownsRow w.heap.size 5 1 v n ((lst f n).map (Value.int .u8)) ∧ Below w.heap.size w w') := clone_own ba n bc f w hib hnb (by omega)
  clear h h1 h2 h3 h4 hib hnb
  go_enter Tryz.func16, Tryz.ntmps16
  go_wp2_with fail
  refine C.mono ?_
  rintro e w1 ⟨rfl, hw⟩
  rw [hw]
  clear C hw w1
  have C := HC.out
  go_wp2_with fail
  refine C.mono ?_
  rintro e w2 ⟨v, rfl, ov, b2⟩
  clear C
  obtain ⟨a', c', rfl, hi', _, _, hn'⟩ := utf.isB_own ov
  have HR : Hid (IsB w2 a' n f ∧ (a' = none → n = 0) ∧ Below w.heap.size w w2) := ⟨hi', hn', b2⟩
  clear ov b2 hi' hn'
  go_wp2
  go_ret
  exact ⟨_, _, rfl, HR.out⟩
theorem rep_consN (n k : Nat) (h : k < n) : List.replicate (n - k) (0 : Int) = 0 :: List.replicate (n - (k + 1)) 0 := by
  rw [show n - k = (n - (k + 1)) + 1 by omega, List.replicate_succ]
theorem PRowN.own {w : World} {g base : Nat} {cs : List Int} (h : PRowN w g cs) (hb : base ≤ g) (hl : cs.length ≤ 1000000) : IOwn w base (.slice (some ⟨g, 0, none⟩) cs.length cs.length) cs := by
  obtain ⟨cur, c1, c2⟩ := h
  have hcs : cur.size = cs.length := by rw [← Array.length_toList, c2, List.length_map]
  refine ⟨by rw [List.length_map, Nat.mul_one], .inr ⟨g, cs.length, cur, rfl, hb, c1, Nat.le_refl _, by unfold maxLen; omega, by omega, ?_⟩⟩
  rw [← c2]
  exact List.take_of_length_le (by rw [Array.length_toList, hcs]; omega)
set_option maxHeartbeats 2000000 in
set_option maxRecDepth 1000000 in
theorem runes_t (x base n : Nat) (f : Nat → Int) (l : List nfd.I) (w : World) (h : TxtIs w base x n f l) (hl : l.length ≤ 100000) :
    Calls Tryz.prog 13 #[.pointer (some ⟨x, 0, none⟩)] w fun e w' => ∃ v, e = .returned v ∧ IV w' v (l.map (·.1)) ∧ Below w.heap.size w w' := by
  obtain ⟨i0, hi, hz0, hz1, hz2⟩ := rng.info_parts infoInt
  have C := made_t x base n f l w h
  obtain ⟨bv, iv, lv, h1, h2, h3, h4⟩ := h.all
  obtain ⟨ia, ic, rfl⟩ := lin.own_slice h3
  have c1 := cell_of_row w x 1 _ _ _ h1
  simp at c1
  have HX : Hid (w.cell? ⟨x, 1, none⟩ = some (.slice ia l.length ic)) := c1
  obtain ⟨_, _, ev, hcells⟩ := h3.iv
  injection ev with e1 e2 e3
  subst e1 e3
  have HC : Hid (∀ k, k < l.length → ∃ x1 x2 x3 b o, ia = some ⟨b, o, none⟩ ∧ w.cell? ⟨b, o + k * 3, none⟩ = some (.int .i64 x1) ∧ w.cell? ⟨b, o + k * 3 + 1, none⟩ = some (.int .i64 x2) ∧ w.cell? ⟨b, o + k * 3 + 2, none⟩ = some (.int .i64 x3) ∧ (l.map (·.1)).take (k + 1) = (l.map (·.1)).take k ++ [x1]) := fun k hk => by
    obtain ⟨b, o, e, hc⟩ := hcells (by omega)
    obtain ⟨d1, d2, d3⟩ := hc k _ (List.getElem?_eq_getElem hk)
    refine ⟨_, _, _, b, o, e, d1, d2, d3, ?_⟩
    rw [List.take_succ_eq_append_getElem (by rw [List.length_map]; exact hk), List.getElem_map]
  obtain ⟨N, hN⟩ : ∃ N, l.length = N := ⟨_, rfl⟩
  have HML : Hid ((l.map (·.1)).length = N) := by show _ = _; rw [List.length_map]; exact hN
  have HMT : Hid ((l.map (·.1)).take N = l.map (·.1)) := List.take_of_length_le (by rw [HML.out]; exact Nat.le_refl _)
  rw [hN] at hl HC HX c1
  clear h h1 h2 h3 h4 hcells e2 hN
  generalize l.map (·.1) = rl at *
  go_enter Tryz.func13, Tryz.ntmps13
  go_wp2_with fail
  refine C.mono ?_
  rintro e w1 ⟨rfl, hw⟩
  rw [hw]
  clear C hw w1
  go_wp2_with (refine wpList_make_full w rfl _ _ 35 rfl w.heap.size 3 i0 (.int .i64 0) 1 Tryz.underlying35 hi hz0 hz1 .i64 .i64 _ _ N rfl rfl rfl rfl (by rw [hz2]; omega) (by unfold maxLen; omega) (Nat.le_refl _) ?_)
  intro w1 hown1 hgrow1
  obtain ⟨gg, hgg⟩ : ∃ gg, w.heap.size = gg := ⟨_, rfl⟩
  have HP1 : Hid (PRowN w1 gg (rl.take 0 ++ List.replicate (N - 0) 0)) := by
    rcases hown1.2 with ⟨h0, _⟩ | ⟨g, c2, cur, hv, hg, hgh, h3, h4, h5, h6⟩
    · cases h0
    · cases hv
      refine ⟨cur, by rw [← hgg]; exact hgh, ?_⟩
      have hfull : cur.toList.take (N * 1) = cur.toList := List.take_of_length_le (by rw [Array.length_toList, h5]; omega)
      rw [hfull] at h6
      rw [List.take_zero, List.nil_append, Nat.sub_zero, ← made_n]
      exact h6
  have HB1 : Hid (Below w.heap.size w w1) := Below.grown (Below.refl _ _) hgrow1 (Nat.le_refl _) (fun k e => by cases e)
  have c1' := cell_below HB1.out HX.out
  clear hown1 hgrow1 c1
  have HGG : Hid (w.heap.size = gg) := hgg
  rw [hgg]
  clear hgg
  go_wp2
  go_loopw [20] (fun i wr => ∃ k : Nat, k ≤ N ∧ i = .int .i64 k ∧ Hid (PRowN wr gg (rl.take k ++ List.replicate (N - k) 0)) ∧ Hid (Below w.heap.size w wr)) (fun i _ => N - (RowKit.intOf i).toNat)
  case atStart => exact ⟨0, Nat.zero_le _, rfl, HP1, HB1⟩
  case round =>
    clear HP1 HB1 c1'
    obtain ⟨k, hk, rfl, HP, HB⟩ := hrel
    by_cases hlt : k < N
    · have hlt' : (k : Int) < (N : Int) := by omega
      have hk0 : (0 : Int) ≤ (k : Int) := by omega
      obtain ⟨x1, x2, x3, b, o, rfl, d1, d2, d3, htk⟩ := HC.out k hlt
      have f1 := cell_below HB.out d1
      have f2 := cell_below HB.out d2
      have f3 := cell_below HB.out d3
      have ba : Below wr.heap.size wr (wr.alloc (.cells #[.int .i64 x1, .int .i64 x2, .int .i64 x3] 30)) := (Below.refl _ wr).alloc (Nat.le_refl _) _
      have hglt : gg < wr.heap.size := by obtain ⟨cur, q1, _⟩ := HP.out; exact (Array.getElem?_eq_some_iff.1 q1).1
      have hpa : PRowN (wr.alloc (.cells #[.int .i64 x1, .int .i64 x2, .int .i64 x3] 30)) gg (rl.take k ++ 0 :: List.replicate (N - (k + 1)) 0) := by
        have := HP.out
        rw [rep_consN N k hlt] at this
        exact this.kept (ba.block gg hglt)
      have hkl : (rl.take k).length = k := by rw [List.length_take, HML.out]; omega
      have z1 : (wr.alloc (.cells #[.int .i64 x1, .int .i64 x2, .int .i64 x3] 30)).cell? ⟨gg, k, none⟩ = some (.int .i64 0) := by
        rw [hpa.cell, List.getElem?_append_right (by omega), hkl, Nat.sub_self]
        rfl
      have z2 := hpa.frozen k
      have R1 : Hid (PRowN ((wr.alloc (.cells #[.int .i64 x1, .int .i64 x2, .int .i64 x3] 30)).setCell ⟨gg, k, none⟩ (.int .i64 x1)) gg (rl.take (k + 1) ++ List.replicate (N - (k + 1)) 0)) := by
        have := hpa.set x1
        rw [hkl] at this
        show PRowN _ _ _
        rw [htk, List.append_assoc]
        exact this
      have R2 : Hid (Below w.heap.size w ((wr.alloc (.cells #[.int .i64 x1, .int .i64 x2, .int .i64 x3] 30)).setCell ⟨gg, k, none⟩ (.int .i64 x1))) := (HB.out.alloc HB.out.size _).setCell (by show w.heap.size ≤ gg; have := HGG.out; omega) _
      have nb := World.alloc_heap_new wr (.cells #[.int .i64 x1, .int .i64 x2, .int .i64 x3] 30)
      generalize hWA : wr.alloc (.cells #[.int .i64 x1, .int .i64 x2, .int .i64 x3] 30) = WA at *
      have g0 := cell_of_row WA wr.heap.size 0 _ _ _ nb
      simp at g0
      clear HP HB hpa htk d1 d2 d3 nb ba hkl hglt
      go_wp2
      try rw [hWA]
      go_roundw
      case rel => exact ⟨k + 1, by omega, by go_num, R1, R2⟩
      case measure => simp [RowKit.intOf]; omega
    · obtain rfl : k = N := by omega
      have hlt' : ¬ (k : Int) < (k : Int) := by omega
      have hp := HP.out
      rw [HMT.out, Nat.sub_self, List.replicate_zero, List.append_nil] at hp
      have ho := hp.own (base := w.heap.size) (by have := HGG.out; omega) (by rw [HML.out]; omega)
      rw [HML.out] at ho
      have HR : Hid (IV wr (.slice (some ⟨gg, 0, none⟩) k k) rl ∧ Below w.heap.size w wr) := ⟨IOwn.iv ho, HB.out⟩
      clear hp ho HP HB
      go_wp2
      go_ret
      exact ⟨_, rfl, HR.out⟩
set_option maxHeartbeats 2000000 in
set_option maxRecDepth 1000000 in
theorem after_t (x base n : Nat) (f : Nat → Int) (l : List nfd.I) (a : Int) (w : World) (h : TxtIs w base x n f l) (hl : l.length ≤ 100000) (hF : Fine n l) :
    Calls Tryz.prog 19 #[.pointer (some ⟨x, 0, none⟩), .int .i64 a] w fun e w' => e = .returned (.int .i64 ((aft a l : Nat) : Int)) ∧ Below w.heap.size w w' := by
  have C := made_t x base n f l w h
  obtain ⟨bv, iv, lv, h1, h2, h3, h4⟩ := h.all
  obtain ⟨ia, ic, rfl⟩ := lin.own_slice h3
  have hlen : (leastL (n : Int) l).length = l.length + 1 := least_len _ _
  have h4' := h4
  unfold IOwn at h4'
  rw [hlen] at h4'
  obtain ⟨g, cap, rfl, hcap, hmax⟩ := own_some h4' (by omega)
  have c1 := cell_of_row w x 1 _ _ _ h1
  have c2 := cell_of_row w x 2 _ _ _ h1
  simp at c1 c2
  have HX1 : Hid (w.cell? ⟨x, 1, none⟩ = some (.slice ia l.length ic)) := c1
  have HX2 : Hid (w.cell? ⟨x, 2, none⟩ = some (.slice (some ⟨g, 0, none⟩) (l.length + 1) cap)) := c2
  have hcell : ∀ j, j < (leastL (n : Int) l).length → w.cell? ⟨g, 0 + j, none⟩ = some (.int .i64 ((leastL (n : Int) l).getD j 0)) := by
    have hiv : IV w (.slice (some ⟨g, 0, none⟩) (l.length + 1) cap) (leastL (n : Int) l) := IOwn.iv h4
    obtain ⟨_, _, ev, hc⟩ := hiv
    injection ev with e1 e2 e3
    obtain ⟨b, o, e4, hc⟩ := hc (by rw [hlen]; omega)
    rw [← e1] at e4
    injection e4 with e4
    injection e4 with e5 e6
    subst e5 e6
    exact hc
  have HS : Hid (∀ W, Below w.heap.size w W → Calls Tryz.prog 35 #[.slice (some ⟨g, 0, none⟩) l.length cap, .int .i64 a] W fun e w' => (∃ bb, e = .returned (.tuple #[.int .i64 ((aft a l : Nat) : Int), .bool bb])) ∧ Below W.heap.size W w') := fun W hb => by
    rcases Nat.eq_zero_or_pos l.length with h0 | h0
    · rw [h0]
      refine (Tryz.slices_BinarySearch_int_empty (some ⟨g, 0, none⟩) cap a W).mono (fun e w' hh => ⟨⟨false, ?_⟩, by rw [hh.2]; exact Below.refl _ _⟩)
      rw [hh.1, List.eq_nil_of_length_eq_zero h0]
      rfl
    · have q := Tryz.slices_BinarySearch_int g 0 l.length cap (leastL (n : Int) l) a W (by rw [hlen]; omega) (by omega) (fun j hj => cell_below hb (hcell j hj)) ((least_sorted (n : Int) l).sublist (List.take_sublist _ _))
      rw [count_aft (fun y hy => by have := hF y hy; omega)] at q
      refine q.mono (fun e w' hh => ⟨⟨_, hh.1⟩, ?_⟩)
      obtain ⟨d, hd⟩ := hh.2
      rw [hd]
      exact ⟨rfl, rfl, rfl, Nat.le_refl _, fun _ _ => rfl⟩
  clear h h1 h2 h3 h4 h4' hcell hlen hF
  obtain ⟨A, hA⟩ : ∃ A : Nat, aft a l = A := ⟨_, rfl⟩
  rw [hA] at HS ⊢
  clear hA
  have k1 : (0 : Int) ≤ (l.length : Int) := by omega
  have k2 : (l.length : Int) ≤ (cap : Int) := by omega
  generalize l.length = N at *
  go_enter Tryz.func19, Tryz.ntmps19
  go_wp2_with fail
  refine C.mono ?_
  rintro e w1 ⟨rfl, hw⟩
  rw [hw]
  clear C hw w1
  go_wp2
  refine wp_region_noPanic ?_
  refine wp_region_held_drew (S := fun w' => w'.cell? ⟨x, 1, none⟩ = some (.slice ia N ic) ∧ w'.cell? ⟨x, 2, none⟩ = some (.slice (some ⟨g, 0, none⟩) (N + 1) cap)) (by kernel_rfl) ⟨c1, c2⟩ (fun hHeld => ?_)
  have B1 : Below w.heap.size w w.drew := (Below.refl _ w).drew
  generalize w.drew = w1 at *
  refine wpAnyH_take (i := 0) (v := ?_) rfl (by kernel_rfl) (by kernel_rfl) (by kernel_rfl) (fun _ _ _ h => h) (Or.inl ⟨by rfl, ?_⟩) (by assumption) ?_
  rotate_left
  · (intro w' hSw; (try dsimp only at hSw); go_simp; try with_reducible rfl)
  try simp only [Act.put, List.getElem_toArray, List.getElem_cons_zero, List.getElem_cons_succ, List.setIfInBounds_toArray, List.set_cons_zero, List.set_cons_succ]
  refine wpAnyH_take (i := 1) (v := ?_) rfl (by kernel_rfl) (by kernel_rfl) (by kernel_rfl) (fun _ _ _ h => h) (Or.inl ⟨by rfl, ?_⟩) (by assumption) ?_
  rotate_left
  · (intro w' hSw; (try dsimp only at hSw); go_simp; try with_reducible rfl)
  try simp only [Act.put, List.getElem_toArray, List.getElem_cons_zero, List.getElem_cons_succ, List.setIfInBounds_toArray, List.set_cons_zero, List.set_cons_succ]
  refine wpAnyH_take (i := 2) (v := ?_) rfl (by kernel_rfl) (by kernel_rfl) (by kernel_rfl) (fun _ _ _ h => h) (Or.inl ⟨by rfl, ?_⟩) (by assumption) ?_
  rotate_left
  · (intro w' hSw; (try dsimp only at hSw); go_simp; try with_reducible rfl)
  try simp only [Act.put, List.getElem_toArray, List.getElem_cons_zero, List.getElem_cons_succ, List.setIfInBounds_toArray, List.set_cons_zero, List.set_cons_succ]
  refine wpAnyH_take (i := 3) (v := ?_) rfl (by kernel_rfl) (by kernel_rfl) (by kernel_rfl) (fun _ _ _ h => h) (Or.inl ⟨by rfl, ?_⟩) (by assumption) ?_
  rotate_left
  · (intro w' hSw; (try dsimp only at hSw); go_simp; try with_reducible rfl)
  try simp only [Act.put, List.getElem_toArray, List.getElem_cons_zero, List.getElem_cons_succ, List.setIfInBounds_toArray, List.set_cons_zero, List.set_cons_succ]
  refine wpAnyH_take (i := 4) (v := ?_) rfl (by kernel_rfl) (by kernel_rfl) (by kernel_rfl) (fun _ _ _ h => h) (Or.inl ⟨by rfl, ?_⟩) (by assumption) ?_
  rotate_left
  · (intro w' hSw; (try dsimp only at hSw); go_simp; try with_reducible rfl)
  try simp only [Act.put, List.getElem_toArray, List.getElem_cons_zero, List.getElem_cons_succ, List.setIfInBounds_toArray, List.set_cons_zero, List.set_cons_succ]
  refine wpAnyH_take (i := 5) (v := ?_) rfl (by kernel_rfl) (by kernel_rfl) (by kernel_rfl) (fun _ _ _ h => h) (Or.inl ⟨by rfl, ?_⟩) (by assumption) ?_
  rotate_left
  · (intro w' hSw; (try dsimp only at hSw); go_simp; try with_reducible rfl)
  try simp only [Act.put, List.getElem_toArray, List.getElem_cons_zero, List.getElem_cons_succ, List.setIfInBounds_toArray, List.set_cons_zero, List.set_cons_succ]
  refine wpAnyH_take (i := 6) (v := ?_) rfl (by kernel_rfl) (by kernel_rfl) (by kernel_rfl) (fun _ _ _ h => h) (Or.inl ⟨by rfl, ?_⟩) (by assumption) ?_
  rotate_left
  · (intro w' hSw; (try dsimp only at hSw); go_simp; try with_reducible rfl)
  try simp only [Act.put, List.getElem_toArray, List.getElem_cons_zero, List.getElem_cons_succ, List.setIfInBounds_toArray, List.set_cons_zero, List.set_cons_succ]
  refine wpAnyH_take (i := 7) (v := ?_) rfl (by kernel_rfl) (by kernel_rfl) (by kernel_rfl) (fun _ _ _ h => h) (Or.inl ⟨by rfl, ?_⟩) (by assumption) ?_
  rotate_left
  · (intro w' hSw; (try dsimp only at hSw); go_simp; try with_reducible rfl)
  try simp only [Act.put, List.getElem_toArray, List.getElem_cons_zero, List.getElem_cons_succ, List.setIfInBounds_toArray, List.set_cons_zero, List.set_cons_succ]
  refine wpAnyH_take (i := 8) (v := ?_) rfl (by kernel_rfl) (by kernel_rfl) (by kernel_rfl) (fun _ _ _ h => h) (Or.inl ⟨by rfl, ?_⟩) (by assumption) ?_
  rotate_left
  · (intro w' hSw; (try dsimp only at hSw); go_simp; try with_reducible rfl)
  try simp only [Act.put, List.getElem_toArray, List.getElem_cons_zero, List.getElem_cons_succ, List.setIfInBounds_toArray, List.set_cons_zero, List.set_cons_succ]
  refine wpAnyH_take (i := 9) (v := ?_) rfl (by kernel_rfl) (by kernel_rfl) (by kernel_rfl) (fun _ _ _ h => h) (Or.inl ⟨by rfl, ?_⟩) (by assumption) ?_
  rotate_left
  · (intro w' hSw; (try dsimp only at hSw); go_simp; try with_reducible rfl)
  try simp only [Act.put, List.getElem_toArray, List.getElem_cons_zero, List.getElem_cons_succ, List.setIfInBounds_toArray, List.set_cons_zero, List.set_cons_succ]
  refine wpAnyH_take (i := 10) (v := ?_) rfl (by kernel_rfl) (by kernel_rfl) (by kernel_rfl) (fun _ _ _ h => h) (Or.inl ⟨by rfl, ?_⟩) (by assumption) ?_
  rotate_left
  · (intro w' hSw; (try dsimp only at hSw); go_simp; try with_reducible rfl)
  try simp only [Act.put, List.getElem_toArray, List.getElem_cons_zero, List.getElem_cons_succ, List.setIfInBounds_toArray, List.set_cons_zero, List.set_cons_succ]
  refine wpAnyH_ready (rs := [11]) (by kernel_rfl) (by simp) ?_
  refine AllReadyH.cons rfl (fun K hK => ?_) AllReadyH.nil
  try simp only [Act.put, List.getElem_toArray, List.getElem_cons_zero, List.getElem_cons_succ, List.setIfInBounds_toArray, List.set_cons_zero, List.set_cons_succ]
  go_simp
  refine (HS.out _ B1).mono ?_
  rintro e w2 ⟨⟨bb, rfl⟩, bq⟩
  have B2 : Below w.heap.size w w2 := B1.trans (bq.mono B1.size)
  clear bq
  refine hK.out _ _ ⟨cell_below B2 HX1.out, cell_below B2 HX2.out⟩ (fun hHeld2 => ?_)
  clear hK K hHeld
  have hHeld := hHeld2
  clear hHeld2
  try simp only [Act.put, List.getElem_toArray, List.getElem_cons_zero, List.getElem_cons_succ, List.setIfInBounds_toArray, List.set_cons_zero, List.set_cons_succ]
  refine wpAnyH_take (i := 12) (v := ?_) rfl (by kernel_rfl) (by kernel_rfl) (by kernel_rfl) (fun _ _ _ h => h) (Or.inl ⟨by rfl, ?_⟩) (by assumption) ?_
  rotate_left
  · (intro w' hSw; (try dsimp only at hSw); go_simp; try with_reducible rfl)
  try simp only [Act.put, List.getElem_toArray, List.getElem_cons_zero, List.getElem_cons_succ, List.setIfInBounds_toArray, List.set_cons_zero, List.set_cons_succ]
  refine wpAnyH_take (i := 13) (v := ?_) rfl (by kernel_rfl) (by kernel_rfl) (by kernel_rfl) (fun _ _ _ h => h) (Or.inl ⟨by rfl, ?_⟩) (by assumption) ?_
  rotate_left
  · (intro w' hSw; (try dsimp only at hSw); go_simp; try with_reducible rfl)
  try simp only [Act.put, List.getElem_toArray, List.getElem_cons_zero, List.getElem_cons_succ, List.setIfInBounds_toArray, List.set_cons_zero, List.set_cons_succ]
  refine wpAnyH_take (i := 14) (v := ?_) rfl (by kernel_rfl) (by kernel_rfl) (by kernel_rfl) (fun _ _ _ h => h) (Or.inl ⟨by rfl, ?_⟩) (by assumption) ?_
  rotate_left
  · (intro w' hSw; (try dsimp only at hSw); go_simp; try with_reducible rfl)
  try simp only [Act.put, List.getElem_toArray, List.getElem_cons_zero, List.getElem_cons_succ, List.setIfInBounds_toArray, List.set_cons_zero, List.set_cons_succ]
  refine wpAnyH_take (i := 15) (v := ?_) rfl (by kernel_rfl) (by kernel_rfl) (by kernel_rfl) (fun _ _ _ h => h) (Or.inl ⟨by rfl, ?_⟩) (by assumption) ?_
  rotate_left
  · (intro w' hSw; (try dsimp only at hSw); go_simp; try with_reducible rfl)
  try simp only [Act.put, List.getElem_toArray, List.getElem_cons_zero, List.getElem_cons_succ, List.setIfInBounds_toArray, List.set_cons_zero, List.set_cons_succ]
  refine wpAnyH_take (i := 16) (v := ?_) rfl (by kernel_rfl) (by kernel_rfl) (by kernel_rfl) (fun _ _ _ h => h) (Or.inl ⟨by rfl, ?_⟩) (by assumption) ?_
  rotate_left
  · (intro w' hSw; (try dsimp only at hSw); go_simp; try with_reducible rfl)
  try simp only [Act.put, List.getElem_toArray, List.getElem_cons_zero, List.getElem_cons_succ, List.setIfInBounds_toArray, List.set_cons_zero, List.set_cons_succ]
  refine wpAnyH_done (by kernel_rfl) ?_ _
  refine NoPanic.normal ?_
  have HB : Hid (Below w.heap.size w w2) := B2
  clear B1 B2 c1 c2
  go_wp2
  go_ret
  exact ⟨rfl, HB.out⟩
end Go.Proofs.YtlidgjkipbijlaaGreatDoor.itm
end

section
/- The document's subject: New, After, Runes. -/
set_option linter.unusedVariables false
set_option linter.unusedSimpArgs false
namespace Go.Proofs.YtlidgjkipbijlaaGreatDoor.itm
open Go.RowKit Go.Shelf nrm prp
open Go.Proofs.YtlidgjkipbijlaaGreatDoor.utf (IsB lst)

/-- In block x lies the document's subject of the n bytes f, with the items l. -/
structure RTxt (W : World) (base x n : Nat) (f : Nat → Int) (l : List nfd.I) : Prop where
  all : ∃ bv iv, W.heap[x]? = some (.cells #[bv, iv] 33 (0, 0)) ∧ W.ownsRow base 5 1 bv n ((lst f n).map (Value.int .u8)) ∧ Own3 W base iv l
theorem RTxt.below {W W' : World} {base x n : Nat} {f : Nat → Int} {l : List nfd.I} (h : RTxt W base x n f l) (hb : Below W.heap.size W W') : RTxt W' base x n f l := by
  obtain ⟨bv, iv, h1, h2, h3⟩ := h.all
  exact ⟨bv, iv, (hb.block x (Array.getElem?_eq_some_iff.1 h1).1).trans h1, lin.own_below h2 hb, h3.below hb⟩
/-- append(dst, src...) of bytes, src nil or not. -/
theorem wpB_append_src {w : World} {ops : Array Oper} {rest : List Oper} {o : Oper} {a : Act} {Q : Exit → Act → World → Prop} (hgd : o.guard = none) (s x : Operand)
    (ho : o.op = .call { callee := .builtin .append, args := #[s, x], argTypes := #[22, 22] })
    (base : Nat) (i : TypeInfo) (hi : Tryz.prog.info? 5 = some i) (hz : i.zero = some (.int .u8 0)) (hsize : i.size = 1) (hby : i.bytes = 1)
    (v : Value) (n : Nat) (xs : List Value) (hs : a.eval s = v) (hown : w.ownsRow base 5 1 v n xs)
    (ao : Option Addr) (m c : Nat) (news : List Value) (hx : a.eval x = .slice ao m c) (hl : news.length = m) (hnil : ao = none → m = 0 ∧ c = 0)
    (hnews : ∀ ad, ao = some ad → ∀ j u, news[j]? = some u → w.cell? (ad.add j) = some u) (h1 : ∀ u ∈ news, u.oneCell' = true)
    (h63 : n + m ≤ maxLen) (hbytes : (n + m) * 1 ≤ 140737488355328) (hbase : base ≤ w.heap.size)
    (h : ∀ v' w', w'.ownsRow base 5 1 v' (n + m) (xs ++ news) → w.grownBy w' v.ownBlock → wpList Tryz.prog ops Q rest (a.put o.dst v') w') : wpList Tryz.prog ops Q (o :: rest) a w := by
  cases ao with
  | none =>
    obtain ⟨rfl, rfl⟩ := hnil rfl
    obtain rfl := List.eq_nil_of_length_eq_zero hl
    refine wpList_append_own_none hgd s x 22 ho base 5 i 1 Tryz.underlying22 hi v n xs hs hown hx (h v w ?_ ⟨rfl, rfl, rfl, Nat.le_refl _, fun _ _ _ => rfl⟩)
    simpa using hown
  | some ad =>
    exact wpList_append_own w hgd s x 22 ho base 5 i (.int .u8 0) 1 1 Tryz.underlying22 hi hz hsize hby rfl (by decide) v n xs hs hown ad m c news hx (by simpa using hl) (hnews ad rfl) h1 h63 hbytes hbase (fun v' w' h2 h3 _ => h v' w' h2 h3)
theorem isB_news {w : World} {ao : Option Addr} {n : Nat} {f : Nat → Int} (h : IsB w ao n f) : ∀ ad, ao = some ad → ∀ (j : Nat) (u : Value), ((lst f n).map (Value.int .u8))[j]? = some u → w.cell? (ad.add j) = some u := by
  intro ad e j u hj
  have hjn : j < n := by
    rcases Nat.lt_or_ge j n with h | h
    · exact h
    · rw [List.getElem?_eq_none (by simpa [lst] using h)] at hj; simp at hj
  rw [utf.lst_get? f n j hjn] at hj
  rcases h with h0 | ⟨b, off, hbo, hc⟩
  · omega
  · rw [e] at hbo
    simp only [Option.some.injEq] at hbo
    subst hbo
    rw [Addr.add_lit, ← hj]
    exact hc j hjn
theorem io_snoc {w : World} {B : Nat} {v : Value} {l : List Int} {x : Int} (h : w.ownsRow B 3 1 v (l.length + 1) (l.map (Value.int .i64) ++ [.int .i64 x])) : IOwn w B v (l ++ [x]) := by
  unfold IOwn
  rw [List.length_append, List.map_append]
  exact h
theorem own_grown {w w' : World} {b e size n : Nat} {v : Value} {xs : List Value} {o : Option Nat} (h : w.ownsRow b e size v n xs) (hg : w.grownBy w' o) (hne : ∀ k, v.ownBlock = some k → o ≠ some k) : w'.ownsRow b e size v n xs := by
  refine ⟨h.1, ?_⟩
  rcases h.2 with h2 | ⟨g, cap, cur, rfl, hb, hgg, r⟩
  · exact .inl h2
  · refine .inr ⟨g, cap, cur, rfl, hb, ?_, r⟩
    rw [hg.block g (Array.getElem?_eq_some_iff.1 hgg).1 (Ne.symm (hne g rfl))]
    exact hgg
set_option maxHeartbeats 2000000 in
set_option maxRecDepth 1000000 in
theorem rnew_t (t : Nat) (ao : Option Addr) (n cap : Nat) (f : Nat → Int) (c : Bool) (w : World) (h : RTabs w t) (hB : IsB w ao n f) (hnil : ao = none → n = 0 ∧ cap = 0) (hn : n ≤ 1000) (hcap : n ≤ cap) (hcm : cap ≤ 9223372036854775807) (hf : ∀ i, 0 ≤ f i ∧ f i ≤ 255) :
    Calls Tryz.prog 32 #[.pointer (some ⟨t, 0, none⟩), .slice ao n cap, .bool c] w fun e w' => ∃ x, e = .returned (.pointer (some ⟨x, 0, none⟩)) ∧ RTxt w' w.heap.size x n f (itemsL c f n) ∧ Below w.heap.size w w' := by
  obtain ⟨i0, hi, hz0, hz1, hz2⟩ := rng.info_parts utf.infoByte
  have C := utf.rdecode_any ao n cap f w hB (by omega) hcap hcm hf
  have HT : Hid (RTabs w t) := h
  have HBB : Hid (IsB w ao n f) := hB
  have HNI : Hid (ao = none → n = 0 ∧ cap = 0) := hnil
  have HDL : Hid ((decI f n).length ≤ 1000) := by show _ ≤ _; have := dec_len f n; omega
  have HITF : Hid (itemsL false f n = decI f n) := rfl
  have HITT : Hid (itemsL true f n = nfdI (decI f n)) := rfl
  clear h hB hnil hf hcap hcm
  go_enter Tryz.func32, Tryz.ntmps32
  go_wp2_with fail
  refine C.mono ?_
  rintro e w2 ⟨v2, rfl, o2, b2⟩
  clear C
  have HB2 : Hid (Below w.heap.size w w2) := b2
  have HO2 : Hid (Own3 w2 w.heap.size v2 (decI f n)) := own3_dec o2
  clear o2 b2
  cases c with
  | false =>
    obtain ⟨sa, sc, rfl⟩ := lin.own_slice HO2.out
    have HOX : Hid (∀ k, (Value.slice sa (decI f n).length sc).ownBlock = some k → k < w2.heap.size) := fun k e => (HO2.out.lt k e).2
    have HO3 := HO2
    have HB3 := HB2
    clear HO2 HB2
    generalize hN : (decI f n).length = N at *
    have HB4 : Hid (Below w.heap.size w (w2.alloc (.cells #[] 5))) := HB3.out.alloc HB3.out.size _
    have HIB : Hid (IsB (w2.alloc (.cells #[] 5)) ao n f) := HBB.out.below HB4.out
    have HO4 : Hid (Own3 (w2.alloc (.cells #[] 5)) w.heap.size (.slice sa N sc) (decI f n)) := HO3.out.below ((Below.refl _ w2).alloc (Nat.le_refl _) _)
    have HSZ : Hid (w.heap.size ≤ w2.heap.size) := HB3.out.size
    clear HB3 HO3
    go_wp2_with (at_builtin; refine wpB_append_src rfl _ _ rfl w2.heap.size i0 hi hz0 hz1 hz2 _ _ _ rfl (World.ownsRow_lit (base := w2.heap.size) (e := 5) (size := 1) w2 #[] 0 (Nat.le_refl _) (by decide) rfl) ao n cap ((lst f n).map (Value.int .u8)) rfl ?c0 ?c6 ?c1 ?c2 ?c3 ?c4 ?c5 ?_)
    case c0 => simp [lst]
    case c6 => exact HNI.out
    case c1 => exact isB_news HIB.out
    case c2 => intro u hu; simp at hu; obtain ⟨x, _, rfl⟩ := hu; rfl
    case c3 => unfold maxLen; omega
    case c4 => omega
    case c5 => simp
    intro v' w5 hown hgrow
    have BG : Below w2.heap.size (w2.alloc (.cells #[] 5)) w5 := Below.grown ((Below.refl _ _)) hgrow (by simp) (fun k hk => by simp [Value.ownBlock] at hk; omega)
    have HB5 : Hid (Below w.heap.size w w5) := HB4.out.trans (BG.mono HSZ.out)
    have HV5 : Hid (w5.ownsRow w.heap.size 5 1 v' n ((lst f n).map (Value.int .u8))) := own_low (by simpa using hown) HSZ.out
    have HO5 : Hid (Own3 w5 w.heap.size (.slice sa N sc) (decI f n)) := by
      have hne := HOX.out
      exact own_grown HO4.out hgrow (fun k e => by have h1 := hne k e; intro q; simp [Value.ownBlock] at q; omega)
    obtain ⟨ba, bc, rfl⟩ := lin.own_slice HV5.out
    clear hown hgrow BG HB4 HIB HO4
    have HFIN : Hid (RTxt (w5.alloc (.cells #[.slice ba n bc, .slice sa N sc] 33)) w.heap.size w5.heap.size n f (decI f n) ∧ Below w.heap.size w (w5.alloc (.cells #[.slice ba n bc, .slice sa N sc] 33))) := by
      have ba' : Below w5.heap.size w5 (w5.alloc (.cells #[.slice ba n bc, .slice sa N sc] 33)) := (Below.refl _ w5).alloc (Nat.le_refl _) _
      exact ⟨⟨_, _, World.alloc_heap_new _ _, lin.own_below HV5.out ba', HO5.out.below ba'⟩, HB5.out.trans (ba'.mono HB5.out.size)⟩
    clear HO5 HV5 HB5
    go_wp2
    go_ret
    exact ⟨_, rfl, HFIN.out⟩
  | true =>
    obtain ⟨sa0, sc0, rfl⟩ := lin.own_slice HO2.out
    have C := ritems_any t _ (decI f n) w2 (HT.out.below HB2.out) HO2.out.iv (by have := HDL.out; omega)
    generalize hN0 : (decI f n).length = N0 at *
    go_wp2_with fail
    refine C.mono ?_
    rintro e wn ⟨vn, rfl, on, bn⟩
    clear C
    have HB3 : Hid (Below w.heap.size w wn) := HB2.out.trans (bn.mono HB2.out.size)
    have HO3 : Hid (Own3 wn w.heap.size vn (nfdI (decI f n))) := own_low on HB2.out.size
    clear on bn HB2 HO2
    obtain ⟨sa, sc, rfl⟩ := lin.own_slice HO3.out
    have HOX : Hid (∀ k, (Value.slice sa (nfdI (decI f n)).length sc).ownBlock = some k → k < wn.heap.size) := fun k e => (HO3.out.lt k e).2
    generalize hN : (nfdI (decI f n)).length = N at *
    have HB4 : Hid (Below w.heap.size w (wn.alloc (.cells #[] 5))) := HB3.out.alloc HB3.out.size _
    have HIB : Hid (IsB (wn.alloc (.cells #[] 5)) ao n f) := HBB.out.below HB4.out
    have HO4 : Hid (Own3 (wn.alloc (.cells #[] 5)) w.heap.size (.slice sa N sc) (nfdI (decI f n))) := HO3.out.below ((Below.refl _ wn).alloc (Nat.le_refl _) _)
    have HSZ : Hid (w.heap.size ≤ wn.heap.size) := HB3.out.size
    clear HB3 HO3
    go_wp2_with (at_builtin; refine wpB_append_src rfl _ _ rfl wn.heap.size i0 hi hz0 hz1 hz2 _ _ _ rfl (World.ownsRow_lit (base := wn.heap.size) (e := 5) (size := 1) wn #[] 0 (Nat.le_refl _) (by decide) rfl) ao n cap ((lst f n).map (Value.int .u8)) rfl ?c0 ?c6 ?c1 ?c2 ?c3 ?c4 ?c5 ?_)
    case c0 => simp [lst]
    case c6 => exact HNI.out
    case c1 => exact isB_news HIB.out
    case c2 => intro u hu; simp at hu; obtain ⟨x, _, rfl⟩ := hu; rfl
    case c3 => unfold maxLen; omega
    case c4 => omega
    case c5 => simp
    intro v' w5 hown hgrow
    have BG : Below wn.heap.size (wn.alloc (.cells #[] 5)) w5 := Below.grown ((Below.refl _ _)) hgrow (by simp) (fun k hk => by simp [Value.ownBlock] at hk; omega)
    have HB5 : Hid (Below w.heap.size w w5) := HB4.out.trans (BG.mono HSZ.out)
    have HV5 : Hid (w5.ownsRow w.heap.size 5 1 v' n ((lst f n).map (Value.int .u8))) := own_low (by simpa using hown) HSZ.out
    have HO5 : Hid (Own3 w5 w.heap.size (.slice sa N sc) (nfdI (decI f n))) := by
      have hne := HOX.out
      exact own_grown HO4.out hgrow (fun k e => by have h1 := hne k e; intro q; simp [Value.ownBlock] at q; omega)
    obtain ⟨ba, bc, rfl⟩ := lin.own_slice HV5.out
    clear hown hgrow BG HB4 HIB HO4
    have HFIN : Hid (RTxt (w5.alloc (.cells #[.slice ba n bc, .slice sa N sc] 33)) w.heap.size w5.heap.size n f (nfdI (decI f n)) ∧ Below w.heap.size w (w5.alloc (.cells #[.slice ba n bc, .slice sa N sc] 33))) := by
      have ba' : Below w5.heap.size w5 (w5.alloc (.cells #[.slice ba n bc, .slice sa N sc] 33)) := (Below.refl _ w5).alloc (Nat.le_refl _) _
      exact ⟨⟨_, _, World.alloc_heap_new _ _, lin.own_below HV5.out ba', HO5.out.below ba'⟩, HB5.out.trans (ba'.mono HB5.out.size)⟩
    clear HO5 HV5 HB5
    go_wp2
    go_ret
    exact ⟨_, rfl, HFIN.out⟩
set_option maxHeartbeats 2000000 in
set_option maxRecDepth 1000000 in
theorem rafter_t (x base n : Nat) (f : Nat → Int) (l : List nfd.I) (a : Int) (w : World) (h : RTxt w base x n f l) (hl : l.length ≤ 100000) :
    Calls Tryz.prog 20 #[.pointer (some ⟨x, 0, none⟩), .int .i64 a] w fun e w' => e = .returned (.int .i64 ((aft a l : Nat) : Int)) ∧ Below w.heap.size w w' := by
  obtain ⟨bv, iv, h1, h2, h3⟩ := h.all
  obtain ⟨ia, ic, rfl⟩ := lin.own_slice h3
  have c1 := cell_of_row w x 1 _ _ _ h1
  simp at c1
  obtain ⟨_, _, ev, hcells⟩ := h3.iv
  injection ev with e1 e2 e3
  subst e1 e3
  have HC : Hid (∀ k, k < l.length → ∃ x1 x2 x3 b o, ia = some ⟨b, o, none⟩ ∧ w.cell? ⟨b, o + k * 3, none⟩ = some (.int .i64 x1) ∧ w.cell? ⟨b, o + k * 3 + 1, none⟩ = some (.int .i64 x2) ∧ w.cell? ⟨b, o + k * 3 + 2, none⟩ = some (.int .i64 x3) ∧ aft a (l.take (k + 1)) = if x2 < a then k + 1 else aft a (l.take k)) := fun k hk => by
    obtain ⟨b, o, e, hc⟩ := hcells (by omega)
    obtain ⟨d1, d2, d3⟩ := hc k _ (List.getElem?_eq_getElem hk)
    refine ⟨_, _, _, b, o, e, d1, d2, d3, ?_⟩
    rw [List.take_succ_eq_append_getElem hk, aft_snoc, List.length_take, Nat.min_eq_left (by omega)]
  obtain ⟨N, hN⟩ : ∃ N, l.length = N := ⟨_, rfl⟩
  have HMT : Hid (aft a (l.take N) = aft a l) := by show _ = _; rw [List.take_of_length_le (by omega)]
  rw [hN] at hl HC c1
  clear h h1 h2 h3 hcells e2 hN
  have H0 : Hid (aft a (l.take 0) = 0) := rfl
  obtain ⟨g, hg⟩ : ∃ g : Nat → Nat, ∀ k, aft a (l.take k) = g k := ⟨_, fun _ => rfl⟩
  simp only [hg] at HC HMT H0
  generalize aft a l = R at *
  clear hg
  go_enter Tryz.func20, Tryz.ntmps20
  go_wp2
  go_loopw [5, 13] (fun v i wr => ∃ k : Nat, k ≤ N ∧ i = .int .i64 k ∧ v = .int .i64 ((g k : Nat) : Int) ∧ Hid (Below w.heap.size w wr)) (fun _ i _ => N - (RowKit.intOf i).toNat)
  case atStart => exact ⟨0, Nat.zero_le _, rfl, by rw [H0.out]; rfl, Below.refl _ _⟩
  case round =>
    clear c1
    obtain ⟨k, hk, rfl, rfl, HB⟩ := hrel
    by_cases hlt : k < N
    · have hlt' : (k : Int) < (N : Int) := by omega
      have hk0 : (0 : Int) ≤ (k : Int) := by omega
      obtain ⟨x1, x2, x3, b, o, rfl, d1, d2, d3, htk⟩ := HC.out k hlt
      have f1 := cell_below HB.out d1
      have f2 := cell_below HB.out d2
      have f3 := cell_below HB.out d3
      have HTK : Hid (g (k + 1) = if x2 < a then k + 1 else g k) := htk
      have R2 : Hid (Below w.heap.size w (wr.alloc (.cells #[.int .i64 x1, .int .i64 x2, .int .i64 x3] 30))) := HB.out.alloc HB.out.size _
      have nb := World.alloc_heap_new wr (.cells #[.int .i64 x1, .int .i64 x2, .int .i64 x3] 30)
      generalize hWA : wr.alloc (.cells #[.int .i64 x1, .int .i64 x2, .int .i64 x3] 30) = WA at *
      have g1 := cell_of_row WA wr.heap.size 1 _ _ _ nb
      simp at g1
      clear HB d1 d2 d3 nb htk
      by_cases hx : x2 < a
      · have HT2 : Hid (g (k + 1) = k + 1) := by have := HTK.out; rw [if_pos hx] at this; exact this
        go_wp2
        try rw [hWA]
        go_roundw
        case rel => exact ⟨k + 1, by omega, by go_num, by rw [HT2.out]; go_num, R2⟩
        case measure => simp [RowKit.intOf]; omega
      · have HT2 : Hid (g (k + 1) = g k) := by have := HTK.out; rw [if_neg hx] at this; exact this
        go_wp2
        try rw [hWA]
        go_roundw
        case rel => exact ⟨k + 1, by omega, by go_num, by rw [HT2.out], R2⟩
        case measure => simp [RowKit.intOf]; omega
    · obtain rfl : k = N := by omega
      have hlt' : ¬ (k : Int) < (k : Int) := by omega
      have HR : Hid (g k = R) := HMT.out
      go_wp2
      go_ret
      exact ⟨by rw [HR.out]; rfl, HB.out⟩
set_option maxHeartbeats 2000000 in
set_option maxRecDepth 1000000 in
theorem rrunes_t (x base n : Nat) (f : Nat → Int) (l : List nfd.I) (w : World) (h : RTxt w base x n f l) (hl : l.length ≤ 100000) :
    Calls Tryz.prog 14 #[.pointer (some ⟨x, 0, none⟩)] w fun e w' => ∃ v, e = .returned v ∧ IV w' v (l.map (·.1)) ∧ Below w.heap.size w w' := by
  obtain ⟨i0, hi, hz0, hz1, hz2⟩ := rng.info_parts infoInt
  obtain ⟨bv, iv, h1, h2, h3⟩ := h.all
  obtain ⟨ia, ic, rfl⟩ := lin.own_slice h3
  have c1 := cell_of_row w x 1 _ _ _ h1
  simp at c1
  obtain ⟨_, _, ev, hcells⟩ := h3.iv
  injection ev with e1 e2 e3
  subst e1 e3
  have HC : Hid (∀ k, k < l.length → ∃ x1 x2 x3 b o, ia = some ⟨b, o, none⟩ ∧ w.cell? ⟨b, o + k * 3, none⟩ = some (.int .i64 x1) ∧ w.cell? ⟨b, o + k * 3 + 1, none⟩ = some (.int .i64 x2) ∧ w.cell? ⟨b, o + k * 3 + 2, none⟩ = some (.int .i64 x3) ∧ (l.map (·.1)).take (k + 1) = (l.map (·.1)).take k ++ [x1]) := fun k hk => by
    obtain ⟨b, o, e, hc⟩ := hcells (by omega)
    obtain ⟨d1, d2, d3⟩ := hc k _ (List.getElem?_eq_getElem hk)
    refine ⟨_, _, _, b, o, e, d1, d2, d3, ?_⟩
    rw [List.take_succ_eq_append_getElem (by rw [List.length_map]; exact hk), List.getElem_map]
  obtain ⟨N, hN⟩ : ∃ N, l.length = N := ⟨_, rfl⟩
  have HML : Hid ((l.map (·.1)).length = N) := by show _ = _; rw [List.length_map]; exact hN
  have HMT : Hid ((l.map (·.1)).take N = l.map (·.1)) := List.take_of_length_le (by rw [HML.out]; exact Nat.le_refl _)
  rw [hN] at hl HC c1
  clear h h1 h2 h3 hcells e2 hN
  generalize l.map (·.1) = rl at *
  go_enter Tryz.func14, Tryz.ntmps14
  go_wp2
  go_loopw [3, 11] (fun v i wr => ∃ k : Nat, k ≤ N ∧ i = .int .i64 k ∧ Hid (IOwn wr w.heap.size v (rl.take k)) ∧ Hid (Below w.heap.size w wr)) (fun _ i _ => N - (RowKit.intOf i).toNat)
  case atStart => exact ⟨0, Nat.zero_le _, rfl, World.ownsRow_nil _ _ _ _, Below.refl _ _⟩
  case round =>
    clear c1
    obtain ⟨k, hk, rfl, HO, HB⟩ := hrel
    by_cases hlt : k < N
    · have hlt' : (k : Int) < (N : Int) := by omega
      have hk0 : (0 : Int) ≤ (k : Int) := by omega
      obtain ⟨x1, x2, x3, b, o, rfl, d1, d2, d3, htk⟩ := HC.out k hlt
      have f1 := cell_below HB.out d1
      have f2 := cell_below HB.out d2
      have f3 := cell_below HB.out d3
      have hkl : (rl.take k).length ≤ 100000 := by rw [List.length_take, HML.out]; omega
      have HTK : Hid (rl.take (k + 1) = rl.take k ++ [x1]) := htk
      have HB2 : Hid (Below w.heap.size w (wr.alloc (.cells #[.int .i64 x1, .int .i64 x2, .int .i64 x3] 30))) := HB.out.alloc HB.out.size _
      have HO2 : Hid (IOwn (wr.alloc (.cells #[.int .i64 x1, .int .i64 x2, .int .i64 x3] 30)) w.heap.size u3 (rl.take k)) := World.ownsRow.alloc HO.out _
      have hsz := HB2.out.size
      have nb := World.alloc_heap_new wr (.cells #[.int .i64 x1, .int .i64 x2, .int .i64 x3] 30)
      generalize hWA : wr.alloc (.cells #[.int .i64 x1, .int .i64 x2, .int .i64 x3] 30) = WA at *
      have g0 := cell_of_row WA wr.heap.size 0 _ _ _ nb
      simp at g0
      obtain ⟨ya, yc, rfl⟩ := lin.own_slice HO2.out
      clear HO HB d1 d2 d3 nb htk
      generalize rl.take k = BL at *
      go_wp2_with (first | (rw [hWA]) | (at_builtin; refine wpList_append_own _ rfl _ _ 35 rfl w.heap.size 3 i0 (.int .i64 0) 1 8 Tryz.underlying35 hi hz0 hz1 hz2 rfl (by decide) _ _ _ rfl (World.ownsRow.alloc HO2.out _) ⟨WA.heap.size, 0, none⟩ 1 1 [.int .i64 x1] rfl rfl (cell_one_new _ _ _) ?c2 ?c3 ?c4 ?c5 ?_))
      case c2 => first | (intro u hu; simp at hu; subst hu; rfl) | simp [Value.oneCell']
      case c3 => unfold maxLen; omega
      case c4 => omega
      case c5 => first | omega | (simp; omega)
      intro v' w5 hown5 hgrow _
      have R2 : Hid (Below w.heap.size w w5) := Below.grown (HB2.out.alloc hsz _) hgrow (by simp; omega) (fun k e => (HO2.out.lt k e).1)
      have R1 : Hid (IOwn w5 w.heap.size v' (rl.take (k + 1))) := by show IOwn _ _ _ _; rw [HTK.out]; exact io_snoc hown5
      clear hown5 hgrow HO2 HB2
      go_wp2
      go_roundw
      case rel => exact ⟨k + 1, by omega, by go_num, R1, R2⟩
      case measure => simp [RowKit.intOf]; omega
    · obtain rfl : k = N := by omega
      have hlt' : ¬ (k : Int) < (k : Int) := by omega
      have HR : Hid (IV wr u3 rl ∧ Below w.heap.size w wr) := by
        have := HO.out
        rw [HMT.out] at this
        exact ⟨IOwn.iv this, HB.out⟩
      clear HO HB
      go_wp2
      go_ret
      exact ⟨_, rfl, HR.out⟩
end Go.Proofs.YtlidgjkipbijlaaGreatDoor.itm
end
