/- Texts that the proof leans on, one behind the other. -/
import Derived.Test.YtcmhkfiijdomiaaGreatDoorBdWrd5
import Derived.Test.YtcmhkfiijdomiaaGreatDoorBdWrd8
import Derived.Test.YtcmhkfiijdomiaaGreatDoorBdWrd9
import Derived.Test.YtcmhkfiijdomiaaGreatDoorBdClu1
import Derived.OrdersHeld
import Derived.Deep.RegionHeld3

section
/- awake, WordEdges, WordSimple: the walks. -/
set_option linter.unusedVariables false
set_option linter.unusedSimpArgs false
namespace Go.Proofs.YtcmhkfiijdomiaaGreatDoor.wrd
open Go.RowKit Go.Maps
open Go.Proofs.YtcmhkfiijdomiaaGreatDoor.lin Go.Proofs.YtcmhkfiijdomiaaGreatDoor.prp
open Go.Proofs.YtcmhkfiijdomiaaGreatDoor.clu (ArgC)

theorem iown_txt {w : World} {base n : Nat} {v : Value} {l : List Int} (h : IOwn w base v l) (hl : l.length = n) (hok : ∀ r ∈ l, okI r) (hn : n ≤ 1000000) : ∃ ao cap, v = .slice ao n cap ∧ Txt w ao n cap l := by
  subst hl
  have hiv := h.iv
  rcases h.2 with ⟨rfl, h0⟩ | ⟨g, cap, cur, rfl, hg, hgg, hc, hm, hs, ht⟩
  · refine ⟨none, 0, by rw [h0], ?_⟩
    rw [h0] at hn ⊢
    exact ⟨hiv, Nat.le_refl _, by omega, hok, by omega⟩
  · exact ⟨_, cap, rfl, hiv, hc, by unfold maxLen at hm; omega, hok, hn⟩
theorem awake_edges : edgeW [99, 97, 110, 39, 116] 0 = true ∧ edgeW [99, 97, 110, 39, 116] 3 = false ∧ edgeW [99, 97, 110, 39, 116] 4 = false ∧ edgeW [99, 97, 110, 39, 116] 5 = true := by decide +kernel
set_option maxHeartbeats 2000000 in
set_option maxRecDepth 1000000 in
theorem awake_any (w : World) (E : Env w) : Calls Tryz.prog 15 #[] w fun e w' => e = .returned (.bool true) ∧ Below w.heap.size w w' := by
  have C := load_any w E
  clear E
  go_enter Tryz.func15, Tryz.ntmps15
  go_wp2_with fail
  refine C.mono ?_
  rintro e w1 ⟨t, rfl, ht, b1⟩
  clear C
  have B1 : Below w1.heap.size w1 (w1.alloc (.cells #[.int .i64 99, .int .i64 97, .int .i64 110, .int .i64 39, .int .i64 116] 3)) := (Below.refl _ w1).alloc (Nat.le_refl _) _
  have hown : IOwn (w1.alloc (.cells #[.int .i64 99, .int .i64 97, .int .i64 110, .int .i64 39, .int .i64 116] 3)) 0 (.slice (some ⟨w1.heap.size, 0, none⟩) 5 5) [99, 97, 110, 39, 116] := World.ownsRow_lit (base := 0) (e := 3) (size := 1) w1 #[.int .i64 99, .int .i64 97, .int .i64 110, .int .i64 39, .int .i64 116] 5 (Nat.zero_le _) (by unfold maxLen; omega) rfl
  have HTX : Hid (Txt (w1.alloc (.cells #[.int .i64 99, .int .i64 97, .int .i64 110, .int .i64 39, .int .i64 116] 3)) (some ⟨w1.heap.size, 0, none⟩) 5 5 [99, 97, 110, 39, 116]) := ⟨hown.iv, by decide, by decide, by unfold okI; decide, by decide⟩
  have HT : Hid (Tabs (w1.alloc (.cells #[.int .i64 99, .int .i64 97, .int .i64 110, .int .i64 39, .int .i64 116] 3)) t) := ht.below B1
  have HB1 : Hid (Below w.heap.size w (w1.alloc (.cells #[.int .i64 99, .int .i64 97, .int .i64 110, .int .i64 39, .int .i64 116] 3))) := b1.trans (B1.mono b1.size)
  clear b1 B1 ht hown
  have C := edge_t t (some ⟨w1.heap.size, 0, none⟩) 5 5 [99, 97, 110, 39, 116] 0 _ HT.out HTX.out
  rw [awake_edges.1] at C
  go_wp2_with fail
  refine C.mono ?_
  rintro e w2 ⟨rfl, b2⟩
  clear C
  have HB2 : Hid (Below w.heap.size w w2) := HB1.out.trans (b2.mono HB1.out.size)
  have HT2 : Hid (Tabs w2 t) := HT.out.below b2
  have HTX2 : Hid (Txt w2 (some ⟨w1.heap.size, 0, none⟩) 5 5 [99, 97, 110, 39, 116]) := HTX.out.below b2
  clear b2 HB1 HT HTX
  have C := edge_t t (some ⟨w1.heap.size, 0, none⟩) 5 5 [99, 97, 110, 39, 116] 3 _ HT2.out HTX2.out
  rw [awake_edges.2.1] at C
  go_wp2_with fail
  refine C.mono ?_
  rintro e w3 ⟨rfl, b3⟩
  clear C
  have HB3 : Hid (Below w.heap.size w w3) := HB2.out.trans (b3.mono HB2.out.size)
  have HT3 : Hid (Tabs w3 t) := HT2.out.below b3
  have HTX3 : Hid (Txt w3 (some ⟨w1.heap.size, 0, none⟩) 5 5 [99, 97, 110, 39, 116]) := HTX2.out.below b3
  clear b3 HB2 HT2 HTX2
  have C := edge_t t (some ⟨w1.heap.size, 0, none⟩) 5 5 [99, 97, 110, 39, 116] 4 _ HT3.out HTX3.out
  rw [awake_edges.2.2.1] at C
  go_wp2_with fail
  refine C.mono ?_
  rintro e w4 ⟨rfl, b4⟩
  clear C
  have HB4 : Hid (Below w.heap.size w w4) := HB3.out.trans (b4.mono HB3.out.size)
  have HT4 : Hid (Tabs w4 t) := HT3.out.below b4
  have HTX4 : Hid (Txt w4 (some ⟨w1.heap.size, 0, none⟩) 5 5 [99, 97, 110, 39, 116]) := HTX3.out.below b4
  clear b4 HB3 HT3 HTX3
  have C := edge_t t (some ⟨w1.heap.size, 0, none⟩) 5 5 [99, 97, 110, 39, 116] 5 _ HT4.out HTX4.out
  rw [awake_edges.2.2.2] at C
  go_wp2_with fail
  refine C.mono ?_
  rintro e w5 ⟨rfl, b5⟩
  clear C
  have HB5 : Hid (Below w.heap.size w w5) := HB4.out.trans (b5.mono HB4.out.size)
  have HT5 : Hid (Tabs w5 t) := HT4.out.below b5
  have HTX5 : Hid (Txt w5 (some ⟨w1.heap.size, 0, none⟩) 5 5 [99, 97, 110, 39, 116]) := HTX4.out.below b5
  clear b5 HB4 HT4 HTX4
  go_wp2
  go_ret
  exact ⟨rfl, HB5.out⟩
theorem clone_any (v : Value) (l : List Int) (w : World) (h : IV w v l) (hn : l.length ≤ 1000000) : Calls Tryz.prog 11 #[v] w fun e w' => ∃ v', e = .returned v' ∧ IOwn w' w.heap.size v' l ∧ Below w.heap.size w w' := iclone_any v l w h hn
set_option maxHeartbeats 4000000 in
set_option maxRecDepth 1000000 in
theorem edges_walk (v : Value) (l : List Int) (w : World) (h : ArgC w v l) (E : Env w) : Calls Tryz.prog 3 #[v] w fun e w' => e = .returned (.bool true) ∧ Below w.heap.size w w' := by
  have HE : Hid (Env w) := E
  have HA : Hid (ArgC w v l) := h
  obtain ⟨ao, cap, rfl, hcells, hok, hcap, hmax, hnil⟩ := h
  obtain ⟨n, hn⟩ : ∃ n, min l.length 60 = n := ⟨_, rfl⟩
  have hnl : n ≤ l.length := by omega
  have hn60 : n ≤ 60 := by omega
  have HLN : Hid ((l.take n).length = n) := by show _ = _; rw [List.length_take]; omega
  have HOK : Hid (∀ r ∈ l.take n, okI r) := fun x hx => hok x (List.mem_of_mem_take hx)
  have HV : Hid (Txt w ao n cap (l.take n)) := ⟨HA.out.take n hnl, by omega, hmax, HOK.out, by omega⟩
  have C := load_any w E
  have hmin : min (l.length : Int) 60 = (n : Int) := by omega
  have hmin2 : (if (l.length : Int) < 60 then (l.length : Int) else 60) = (n : Int) := by split <;> omega
  have hmin3 : (if (60 : Int) < (l.length : Int) then 60 else (l.length : Int)) = (n : Int) := by split <;> omega
  have hmin4 : (if (l.length : Int) ≤ 60 then (l.length : Int) else 60) = (n : Int) := by split <;> omega
  have hncap : (n : Int) ≤ (cap : Int) := by omega
  have hn0 : (0 : Int) ≤ (n : Int) := by omega
  generalize hLN : l.take n = LN at *
  generalize l.length = ll at *
  clear hcells hok hLN HA E hnil hn
  go_enter Tryz.func3, Tryz.ntmps3
  go_wp2_with fail
  refine C.mono ?_
  rintro e w1 ⟨t, rfl, ht, b1⟩
  clear C
  have HT1 : Hid (Tabs w1 t) := ht
  clear ht
  have C := rload_any w1
  go_wp2_with fail
  refine C.mono ?_
  rintro e w2 ⟨u, rfl, hu, b2⟩
  clear C
  have HB2 : Hid (Below w.heap.size w w2) := b1.trans (b2.mono b1.size)
  have HT2 : Hid (Tabs w2 t) := HT1.out.below b2
  have HU2 : Hid (RTabs w2 u) := hu
  clear hu b1 b2 HT1
  have C := clone_any (.slice ao n cap) LN w2 (HV.out.below HB2.out).iv (by rw [HLN.out]; omega)
  go_wp2_with fail
  refine C.mono ?_
  rintro e w3 ⟨gv, rfl, hg, b3⟩
  clear C
  obtain ⟨ga, gc, rfl, hgt⟩ := iown_txt hg HLN.out HOK.out (by omega)
  have HG3 : Hid (Txt w3 ga n gc LN) := hgt
  have HB3 : Hid (Below w.heap.size w w3) := HB2.out.trans (b3.mono HB2.out.size)
  have HT3 : Hid (Tabs w3 t) := HT2.out.below b3
  have HU3 : Hid (RTabs w3 u) := HU2.out.below b3
  clear hg hgt b3 HB2 HT2 HU2
  have wn1 : IntKind.i64.wrap ((n : Int) + 1) = (n : Int) + 1 := by rw [IntKind.wrap_i64]; omega
  go_wp2
  go_loopw [6] (fun i wr => ∃ j : Int, -1 ≤ j ∧ j ≤ (n : Int) + 2 ∧ i = .int .i64 j ∧ Hid (Below w3.heap.size w3 wr)) (fun i _ => ((n : Int) + 2 - RowKit.intOf i).toNat)
  case atStart => exact ⟨-1, by omega, by omega, rfl, Below.refl _ _⟩
  case round =>
    obtain ⟨j, hj1, hj2, rfl, HB⟩ := hrel
    by_cases hlt : j ≤ (n : Int) + 1
    · have wj : IntKind.i64.wrap (j + 1) = j + 1 := by rw [IntKind.wrap_i64]; omega
      obtain ⟨R, hR⟩ : ∃ R, edgeW LN j = R := ⟨_, rfl⟩
      have C := edge_t t ga n gc LN j wr (HT3.out.below HB.out) (HG3.out.below HB.out)
      have HD : Hid (∀ W, Below w3.heap.size w3 W → Calls Tryz.prog 13 #[.pointer (some ⟨u, 0, none⟩), .slice ao n cap, .int .i64 j] W fun e w' => e = .returned (.bool R) ∧ Below W.heap.size W w') := fun W hb => by
        rw [← hR]
        exact redge_t u ao n cap LN j W (HU3.out.below hb) (HV.out.below (HB3.out.trans (hb.mono HB3.out.size)))
      rw [hR] at C
      have hRR : (R != R) = false := by simp
      clear hR
      go_wp2_with fail
      refine C.mono ?_
      rintro e x1 ⟨rfl, bx⟩
      clear C
      have HB4 : Hid (Below w3.heap.size w3 x1) := HB.out.trans (bx.mono HB.out.size)
      have C := HD.out x1 HB4.out
      clear HB bx HD
      go_wp2_with fail
      refine C.mono ?_
      rintro e x2 ⟨rfl, bx⟩
      clear C
      have HB5 : Hid (Below w3.heap.size w3 x2) := HB4.out.trans (bx.mono HB4.out.size)
      clear HB4 bx
      go_wp2
      exact ⟨⟨j + 1, by omega, by omega, rfl, HB5⟩, by simp [RowKit.intOf]; omega⟩
    · have hge : ¬ j ≤ (n : Int) + 1 := hlt
      have HBW : Hid (Below w.heap.size w wr) := HB3.out.trans (HB.out.mono HB3.out.size)
      have C := iequal_any (.slice ga n gc) (.slice ao n cap) LN wr (HG3.out.below HB.out).iv (HV.out.below HBW.out).iv (by rw [HLN.out]; omega)
      go_wp2_with fail
      refine C.mono ?_
      rintro e x1 ⟨rfl, bx⟩
      clear C
      have HB4 : Hid (Below w.heap.size w x1) := HBW.out.trans (bx.mono HBW.out.size)
      have C := awake_any x1 (HE.out.below HB4.out)
      clear HB bx HBW
      go_wp2_with fail
      refine C.mono ?_
      rintro e x2 ⟨rfl, bx⟩
      clear C
      have HB5 : Hid (Below w.heap.size w x2) := HB4.out.trans (bx.mono HB4.out.size)
      clear HB4 bx
      go_wp2
      go_ret
      exact ⟨rfl, HB5.out⟩
set_option maxHeartbeats 4000000 in
set_option maxRecDepth 1000000 in
theorem simple_walk (v : Value) (l : List Int) (w : World) (h : ArgC w v l) (E : Env w) : Calls Tryz.prog 4 #[v] w fun e w' => e = .returned (.bool true) ∧ Below w.heap.size w w' := by
  have HE : Hid (Env w) := E
  have HA : Hid (ArgC w v l) := h
  obtain ⟨ao, cap, rfl, hcells, hok, hcap, hmax, hnil⟩ := h
  obtain ⟨n, hn⟩ : ∃ n, min l.length 60 = n := ⟨_, rfl⟩
  have hnl : n ≤ l.length := by omega
  have hn60 : n ≤ 60 := by omega
  have HOK : Hid (∀ r ∈ l.take n, okI r) := fun x hx => hok x (List.mem_of_mem_take hx)
  have HV : Hid (Txt w ao n cap (l.take n)) := ⟨HA.out.take n hnl, by omega, hmax, HOK.out, by omega⟩
  have C := load_any w E
  have hmin : min (l.length : Int) 60 = (n : Int) := by omega
  have hmin2 : (if (l.length : Int) < 60 then (l.length : Int) else 60) = (n : Int) := by split <;> omega
  have hmin3 : (if (60 : Int) < (l.length : Int) then 60 else (l.length : Int)) = (n : Int) := by split <;> omega
  have hmin4 : (if (l.length : Int) ≤ 60 then (l.length : Int) else 60) = (n : Int) := by split <;> omega
  have hncap : (n : Int) ≤ (cap : Int) := by omega
  have hn0 : (0 : Int) ≤ (n : Int) := by omega
  generalize hLN : l.take n = LN at *
  generalize l.length = ll at *
  clear hcells hok hLN HA E hnil hn
  go_enter Tryz.func4, Tryz.ntmps4
  go_wp2_with fail
  refine C.mono ?_
  rintro e w1 ⟨t, rfl, ht, b1⟩
  clear C
  have HT1 : Hid (Tabs w1 t) := ht
  clear ht
  have C := rload_any w1
  go_wp2_with fail
  refine C.mono ?_
  rintro e w3 ⟨u, rfl, hu, b2⟩
  clear C
  have HB3 : Hid (Below w.heap.size w w3) := b1.trans (b2.mono b1.size)
  have HT3 : Hid (Tabs w3 t) := HT1.out.below b2
  have HU3 : Hid (RTabs w3 u) := hu
  clear hu b1 b2 HT1
  have wn1 : IntKind.i64.wrap ((n : Int) + 1) = (n : Int) + 1 := by rw [IntKind.wrap_i64]; omega
  go_wp2
  go_loopw [5] (fun i wr => ∃ j : Int, -1 ≤ j ∧ j ≤ (n : Int) + 2 ∧ i = .int .i64 j ∧ Hid (Below w3.heap.size w3 wr)) (fun i _ => ((n : Int) + 2 - RowKit.intOf i).toNat)
  case atStart => exact ⟨-1, by omega, by omega, rfl, Below.refl _ _⟩
  case round =>
    obtain ⟨j, hj1, hj2, rfl, HB⟩ := hrel
    by_cases hlt : j ≤ (n : Int) + 1
    · have wj : IntKind.i64.wrap (j + 1) = j + 1 := by rw [IntKind.wrap_i64]; omega
      have HVX : Hid (∀ W, Below w3.heap.size w3 W → Txt W ao n cap LN) := fun W hb => HV.out.below (HB3.out.trans (hb.mono HB3.out.size))
      obtain ⟨R, hR⟩ : ∃ R, simF isW LN j = R := ⟨_, rfl⟩
      have C := simple_t t ao n cap LN j wr (HT3.out.below HB.out) (HVX.out wr HB.out)
      have HD : Hid (∀ W, Below w3.heap.size w3 W → Calls Tryz.prog 17 #[.pointer (some ⟨u, 0, none⟩), .slice ao n cap, .int .i64 j] W fun e w' => e = .returned (.bool R) ∧ Below W.heap.size W w') := fun W hb => by
        rw [← hR]
        exact rsimple_t u ao n cap LN j W (HU3.out.below hb) (HVX.out W hb)
      rw [hR] at C
      have hRR : (R != R) = false := by simp
      clear hR
      go_wp2_with fail
      refine C.mono ?_
      rintro e x1 ⟨rfl, bx⟩
      clear C
      have HB4 : Hid (Below w3.heap.size w3 x1) := HB.out.trans (bx.mono HB.out.size)
      have C := HD.out x1 HB4.out
      clear HB bx HD
      go_wp2_with fail
      refine C.mono ?_
      rintro e x2 ⟨rfl, bx⟩
      clear C
      have HB5 : Hid (Below w3.heap.size w3 x2) := HB4.out.trans (bx.mono HB4.out.size)
      clear HB4 bx
      by_cases hj0 : j < 0
      · have hj3 : ¬ (0 : Int) ≤ j := by omega
        have hd1 : decide ((0 : Int) ≤ j) = false := decide_eq_false hj3
        go_wp2
        refine wp_region_noPanic ?_
        refine wp_region_held_drew (S := fun _ => True) (by kernel_rfl) trivial (fun hHeld => ?_)
        have HBD : Hid (Below w3.heap.size w3 x2.drew) := HB5.out.drew
        generalize x2.drew = x3 at *
        refine wpAnyH_take (i := 0) (v := ?_) rfl (by kernel_rfl) (by kernel_rfl) (by kernel_rfl) (fun _ _ _ h => h) (Or.inl ⟨by rfl, ?_⟩) (by assumption) ?_
        rotate_left
        · (intro w' hSw; (try dsimp only at hSw); go_simp; try with_reducible rfl)
        try simp only [Act.put, List.getElem_toArray, List.getElem_cons_zero, List.getElem_cons_succ, List.setIfInBounds_toArray, List.set_cons_zero, List.set_cons_succ]
        refine wpAnyH_take (i := 1) (v := ?_) rfl (by kernel_rfl) (by kernel_rfl) (by kernel_rfl) (fun _ _ _ h => h) (Or.inl ⟨by rfl, ?_⟩) (by assumption) ?_
        rotate_left
        · (intro w' hSw; (try dsimp only at hSw); go_simp; try with_reducible rfl)
        try simp only [Act.put, List.getElem_toArray, List.getElem_cons_zero, List.getElem_cons_succ, List.setIfInBounds_toArray, List.set_cons_zero, List.set_cons_succ]
        try simp only [hd1]
        refine wpAnyH_take (i := 2) (v := ?_) rfl (by kernel_rfl) (by kernel_rfl) (by kernel_rfl) (fun _ _ _ h => h) (Or.inl ⟨by rfl, ?_⟩) (by assumption) ?_
        rotate_left
        · (intro w' hSw; (try dsimp only at hSw); go_simp; try with_reducible rfl)
        try simp only [Act.put, List.getElem_toArray, List.getElem_cons_zero, List.getElem_cons_succ, List.setIfInBounds_toArray, List.set_cons_zero, List.set_cons_succ]
        refine wpAnyH_take (i := 3) (v := undef) rfl (by kernel_rfl) (by kernel_rfl) (by kernel_rfl) (fun _ _ _ h => h) (Or.inr ⟨by kernel_rfl, rfl⟩) (by assumption) ?_
        try simp only [Act.put, List.getElem_toArray, List.getElem_cons_zero, List.getElem_cons_succ, List.setIfInBounds_toArray, List.set_cons_zero, List.set_cons_succ]
        refine wpAnyH_take (i := 4) (v := undef) rfl (by kernel_rfl) (by kernel_rfl) (by kernel_rfl) (fun _ _ _ h => h) (Or.inr ⟨by kernel_rfl, rfl⟩) (by assumption) ?_
        try simp only [Act.put, List.getElem_toArray, List.getElem_cons_zero, List.getElem_cons_succ, List.setIfInBounds_toArray, List.set_cons_zero, List.set_cons_succ]
        refine wpAnyH_take (i := 5) (v := undef) rfl (by kernel_rfl) (by kernel_rfl) (by kernel_rfl) (fun _ _ _ h => h) (Or.inr ⟨by kernel_rfl, rfl⟩) (by assumption) ?_
        try simp only [Act.put, List.getElem_toArray, List.getElem_cons_zero, List.getElem_cons_succ, List.setIfInBounds_toArray, List.set_cons_zero, List.set_cons_succ]
        refine wpAnyH_take (i := 6) (v := undef) rfl (by kernel_rfl) (by kernel_rfl) (by kernel_rfl) (fun _ _ _ h => h) (Or.inr ⟨by kernel_rfl, rfl⟩) (by assumption) ?_
        try simp only [Act.put, List.getElem_toArray, List.getElem_cons_zero, List.getElem_cons_succ, List.setIfInBounds_toArray, List.set_cons_zero, List.set_cons_succ]
        refine wpAnyH_take (i := 7) (v := ?_) rfl (by kernel_rfl) (by kernel_rfl) (by kernel_rfl) (fun _ _ _ h => h) (Or.inl ⟨by rfl, ?_⟩) (by assumption) ?_
        rotate_left
        · (intro w' hSw; (try dsimp only at hSw); go_simp; try with_reducible rfl)
        try simp only [Act.put, List.getElem_toArray, List.getElem_cons_zero, List.getElem_cons_succ, List.setIfInBounds_toArray, List.set_cons_zero, List.set_cons_succ]
        refine wpAnyH_take (i := 8) (v := ?_) rfl (by kernel_rfl) (by kernel_rfl) (by kernel_rfl) (fun _ _ _ h => h) (Or.inl ⟨by rfl, ?_⟩) (by assumption) ?_
        rotate_left
        · (intro w' hSw; (try dsimp only at hSw); go_simp; try with_reducible rfl)
        try simp only [Act.put, List.getElem_toArray, List.getElem_cons_zero, List.getElem_cons_succ, List.setIfInBounds_toArray, List.set_cons_zero, List.set_cons_succ]
        refine wpAnyH_take (i := 9) (v := undef) rfl (by kernel_rfl) (by kernel_rfl) (by kernel_rfl) (fun _ _ _ h => h) (Or.inr ⟨by kernel_rfl, rfl⟩) (by assumption) ?_
        try simp only [Act.put, List.getElem_toArray, List.getElem_cons_zero, List.getElem_cons_succ, List.setIfInBounds_toArray, List.set_cons_zero, List.set_cons_succ]
        refine wpAnyH_take (i := 10) (v := undef) rfl (by kernel_rfl) (by kernel_rfl) (by kernel_rfl) (fun _ _ _ h => h) (Or.inr ⟨by kernel_rfl, rfl⟩) (by assumption) ?_
        try simp only [Act.put, List.getElem_toArray, List.getElem_cons_zero, List.getElem_cons_succ, List.setIfInBounds_toArray, List.set_cons_zero, List.set_cons_succ]
        refine wpAnyH_take (i := 11) (v := undef) rfl (by kernel_rfl) (by kernel_rfl) (by kernel_rfl) (fun _ _ _ h => h) (Or.inr ⟨by kernel_rfl, rfl⟩) (by assumption) ?_
        try simp only [Act.put, List.getElem_toArray, List.getElem_cons_zero, List.getElem_cons_succ, List.setIfInBounds_toArray, List.set_cons_zero, List.set_cons_succ]
        refine wpAnyH_take (i := 12) (v := undef) rfl (by kernel_rfl) (by kernel_rfl) (by kernel_rfl) (fun _ _ _ h => h) (Or.inr ⟨by kernel_rfl, rfl⟩) (by assumption) ?_
        try simp only [Act.put, List.getElem_toArray, List.getElem_cons_zero, List.getElem_cons_succ, List.setIfInBounds_toArray, List.set_cons_zero, List.set_cons_succ]
        refine wpAnyH_take (i := 13) (v := undef) rfl (by kernel_rfl) (by kernel_rfl) (by kernel_rfl) (fun _ _ _ h => h) (Or.inr ⟨by kernel_rfl, rfl⟩) (by assumption) ?_
        try simp only [Act.put, List.getElem_toArray, List.getElem_cons_zero, List.getElem_cons_succ, List.setIfInBounds_toArray, List.set_cons_zero, List.set_cons_succ]
        refine wpAnyH_take (i := 14) (v := undef) rfl (by kernel_rfl) (by kernel_rfl) (by kernel_rfl) (fun _ _ _ h => h) (Or.inr ⟨by kernel_rfl, rfl⟩) (by assumption) ?_
        try simp only [Act.put, List.getElem_toArray, List.getElem_cons_zero, List.getElem_cons_succ, List.setIfInBounds_toArray, List.set_cons_zero, List.set_cons_succ]
        refine wpAnyH_take (i := 15) (v := undef) rfl (by kernel_rfl) (by kernel_rfl) (by kernel_rfl) (fun _ _ _ h => h) (Or.inr ⟨by kernel_rfl, rfl⟩) (by assumption) ?_
        try simp only [Act.put, List.getElem_toArray, List.getElem_cons_zero, List.getElem_cons_succ, List.setIfInBounds_toArray, List.set_cons_zero, List.set_cons_succ]
        refine wpAnyH_take (i := 16) (v := undef) rfl (by kernel_rfl) (by kernel_rfl) (by kernel_rfl) (fun _ _ _ h => h) (Or.inr ⟨by kernel_rfl, rfl⟩) (by assumption) ?_
        try simp only [Act.put, List.getElem_toArray, List.getElem_cons_zero, List.getElem_cons_succ, List.setIfInBounds_toArray, List.set_cons_zero, List.set_cons_succ]
        refine wpAnyH_take (i := 17) (v := undef) rfl (by kernel_rfl) (by kernel_rfl) (by kernel_rfl) (fun _ _ _ h => h) (Or.inr ⟨by kernel_rfl, rfl⟩) (by assumption) ?_
        try simp only [Act.put, List.getElem_toArray, List.getElem_cons_zero, List.getElem_cons_succ, List.setIfInBounds_toArray, List.set_cons_zero, List.set_cons_succ]
        refine wpAnyH_take (i := 18) (v := undef) rfl (by kernel_rfl) (by kernel_rfl) (by kernel_rfl) (fun _ _ _ h => h) (Or.inr ⟨by kernel_rfl, rfl⟩) (by assumption) ?_
        try simp only [Act.put, List.getElem_toArray, List.getElem_cons_zero, List.getElem_cons_succ, List.setIfInBounds_toArray, List.set_cons_zero, List.set_cons_succ]
        refine wpAnyH_take (i := 19) (v := undef) rfl (by kernel_rfl) (by kernel_rfl) (by kernel_rfl) (fun _ _ _ h => h) (Or.inr ⟨by kernel_rfl, rfl⟩) (by assumption) ?_
        try simp only [Act.put, List.getElem_toArray, List.getElem_cons_zero, List.getElem_cons_succ, List.setIfInBounds_toArray, List.set_cons_zero, List.set_cons_succ]
        refine wpAnyH_take (i := 20) (v := undef) rfl (by kernel_rfl) (by kernel_rfl) (by kernel_rfl) (fun _ _ _ h => h) (Or.inr ⟨by kernel_rfl, rfl⟩) (by assumption) ?_
        try simp only [Act.put, List.getElem_toArray, List.getElem_cons_zero, List.getElem_cons_succ, List.setIfInBounds_toArray, List.set_cons_zero, List.set_cons_succ]
        refine wpAnyH_take (i := 21) (v := undef) rfl (by kernel_rfl) (by kernel_rfl) (by kernel_rfl) (fun _ _ _ h => h) (Or.inr ⟨by kernel_rfl, rfl⟩) (by assumption) ?_
        try simp only [Act.put, List.getElem_toArray, List.getElem_cons_zero, List.getElem_cons_succ, List.setIfInBounds_toArray, List.set_cons_zero, List.set_cons_succ]
        refine wpAnyH_take (i := 22) (v := ?_) rfl (by kernel_rfl) (by kernel_rfl) (by kernel_rfl) (fun _ _ _ h => h) (Or.inl ⟨by rfl, ?_⟩) (by assumption) ?_
        rotate_left
        · (intro w' hSw; (try dsimp only at hSw); go_simp; try with_reducible rfl)
        try simp only [Act.put, List.getElem_toArray, List.getElem_cons_zero, List.getElem_cons_succ, List.setIfInBounds_toArray, List.set_cons_zero, List.set_cons_succ]
        refine wpAnyH_done (by kernel_rfl) ?_ _
        refine NoPanic.normal ?_
        go_wp2
        exact ⟨⟨j + 1, by omega, by omega, rfl, HBD⟩, by simp [RowKit.intOf]; omega⟩
      by_cases hjn : j < (n : Int)
      · have hj3 : (0 : Int) ≤ j := by omega
        obtain ⟨k, hk⟩ : ∃ k : Nat, j = (k : Int) := ⟨j.toNat, by omega⟩
        obtain ⟨hll, hat⟩ := iv_cells HV.out.iv
        obtain ⟨x, b, o, rfl, cx0, hx⟩ := hat k (by omega)
        have cx := cell_below (HB3.out.trans (HB5.out.mono HB3.out.size)) cx0
        have HCX : Hid (w.cell? ⟨b, o + k, none⟩ = some (.int .i64 x)) := cx0
        have HI1 : Hid (∀ W, Below w3.heap.size w3 W → Calls Tryz.prog 18 #[.pointer (some ⟨t, 0, none⟩), .int .i64 x] W fun e w' => e = .returned (.bool (isW x)) ∧ Below W.heap.size W w') := fun W hb => is_t t x W (HT3.out.below hb)
        have HD : Hid (∀ W, Below w3.heap.size w3 W → Calls Tryz.prog 19 #[.pointer (some ⟨u, 0, none⟩), .int .i64 x] W fun e w' => e = .returned (.bool (isW x)) ∧ Below W.heap.size W w') := fun W hb => ris_t u x W (HU3.out.below hb)
        have hii : (isW x != isW x) = false := by simp
        clear hx hat hll cx0
        subst hk
        generalize isW x = I at *
        have hd1 : decide ((0 : Int) ≤ (k : Int)) = true := decide_eq_true hj3
        have hd2 : decide ((k : Int) < (n : Int)) = true := decide_eq_true hjn
        go_wp2
        refine wp_region_noPanic ?_
        refine wp_region_held_drew (S := fun w' => w'.cell? ⟨b, o + k, none⟩ = some (.int .i64 x)) (by kernel_rfl) cx (fun hHeld => ?_)
        have B3 : Below w3.heap.size w3 x2.drew := HB5.out.drew
        generalize x2.drew = x3 at *
        refine wpAnyH_take (i := 0) (v := ?_) rfl (by kernel_rfl) (by kernel_rfl) (by kernel_rfl) (fun _ _ _ h => h) (Or.inl ⟨by rfl, ?_⟩) (by assumption) ?_
        rotate_left
        · (intro w' hSw; (try dsimp only at hSw); go_simp; try with_reducible rfl)
        try simp only [Act.put, List.getElem_toArray, List.getElem_cons_zero, List.getElem_cons_succ, List.setIfInBounds_toArray, List.set_cons_zero, List.set_cons_succ]
        refine wpAnyH_take (i := 1) (v := ?_) rfl (by kernel_rfl) (by kernel_rfl) (by kernel_rfl) (fun _ _ _ h => h) (Or.inl ⟨by rfl, ?_⟩) (by assumption) ?_
        rotate_left
        · (intro w' hSw; (try dsimp only at hSw); go_simp; try with_reducible rfl)
        try simp only [Act.put, List.getElem_toArray, List.getElem_cons_zero, List.getElem_cons_succ, List.setIfInBounds_toArray, List.set_cons_zero, List.set_cons_succ]
        try simp only [hd1]
        refine wpAnyH_take (i := 2) (v := ?_) rfl (by kernel_rfl) (by kernel_rfl) (by kernel_rfl) (fun _ _ _ h => h) (Or.inl ⟨by rfl, ?_⟩) (by assumption) ?_
        rotate_left
        · (intro w' hSw; (try dsimp only at hSw); go_simp; try with_reducible rfl)
        try simp only [Act.put, List.getElem_toArray, List.getElem_cons_zero, List.getElem_cons_succ, List.setIfInBounds_toArray, List.set_cons_zero, List.set_cons_succ]
        refine wpAnyH_take (i := 3) (v := ?_) rfl (by kernel_rfl) (by kernel_rfl) (by kernel_rfl) (fun _ _ _ h => h) (Or.inl ⟨by rfl, ?_⟩) (by assumption) ?_
        rotate_left
        · (intro w' hSw; (try dsimp only at hSw); go_simp; try with_reducible rfl)
        try simp only [Act.put, List.getElem_toArray, List.getElem_cons_zero, List.getElem_cons_succ, List.setIfInBounds_toArray, List.set_cons_zero, List.set_cons_succ]
        refine wpAnyH_take (i := 4) (v := ?_) rfl (by kernel_rfl) (by kernel_rfl) (by kernel_rfl) (fun _ _ _ h => h) (Or.inl ⟨by rfl, ?_⟩) (by assumption) ?_
        rotate_left
        · (intro w' hSw; (try dsimp only at hSw); go_simp; try with_reducible rfl)
        try simp only [Act.put, List.getElem_toArray, List.getElem_cons_zero, List.getElem_cons_succ, List.setIfInBounds_toArray, List.set_cons_zero, List.set_cons_succ]
        refine wpAnyH_take (i := 5) (v := ?_) rfl (by kernel_rfl) (by kernel_rfl) (by kernel_rfl) (fun _ _ _ h => h) (Or.inl ⟨by rfl, ?_⟩) (by assumption) ?_
        rotate_left
        · (intro w' hSw; (try dsimp only at hSw); go_simp; try with_reducible rfl)
        try simp only [Act.put, List.getElem_toArray, List.getElem_cons_zero, List.getElem_cons_succ, List.setIfInBounds_toArray, List.set_cons_zero, List.set_cons_succ]
        refine wpAnyH_take (i := 6) (v := ?_) rfl (by kernel_rfl) (by kernel_rfl) (by kernel_rfl) (fun _ _ _ h => h) (Or.inl ⟨by rfl, ?_⟩) (by assumption) ?_
        rotate_left
        · (intro w' hSw; (try dsimp only at hSw); go_simp; try with_reducible rfl)
        try simp only [Act.put, List.getElem_toArray, List.getElem_cons_zero, List.getElem_cons_succ, List.setIfInBounds_toArray, List.set_cons_zero, List.set_cons_succ]
        try simp only [hd2]
        refine wpAnyH_take (i := 7) (v := ?_) rfl (by kernel_rfl) (by kernel_rfl) (by kernel_rfl) (fun _ _ _ h => h) (Or.inl ⟨by rfl, ?_⟩) (by assumption) ?_
        rotate_left
        · (intro w' hSw; (try dsimp only at hSw); go_simp; try with_reducible rfl)
        try simp only [Act.put, List.getElem_toArray, List.getElem_cons_zero, List.getElem_cons_succ, List.setIfInBounds_toArray, List.set_cons_zero, List.set_cons_succ]
        refine wpAnyH_take (i := 8) (v := ?_) rfl (by kernel_rfl) (by kernel_rfl) (by kernel_rfl) (fun _ _ _ h => h) (Or.inl ⟨by rfl, ?_⟩) (by assumption) ?_
        rotate_left
        · (intro w' hSw; (try dsimp only at hSw); go_simp; try with_reducible rfl)
        try simp only [Act.put, List.getElem_toArray, List.getElem_cons_zero, List.getElem_cons_succ, List.setIfInBounds_toArray, List.set_cons_zero, List.set_cons_succ]
        refine wpAnyH_take (i := 9) (v := ?_) rfl (by kernel_rfl) (by kernel_rfl) (by kernel_rfl) (fun _ _ _ h => h) (Or.inl ⟨by rfl, ?_⟩) (by assumption) ?_
        rotate_left
        · (intro w' hSw; (try dsimp only at hSw); go_simp; try with_reducible rfl)
        try simp only [Act.put, List.getElem_toArray, List.getElem_cons_zero, List.getElem_cons_succ, List.setIfInBounds_toArray, List.set_cons_zero, List.set_cons_succ]
        refine wpAnyH_take (i := 10) (v := ?_) rfl (by kernel_rfl) (by kernel_rfl) (by kernel_rfl) (fun _ _ _ h => h) (Or.inl ⟨by rfl, ?_⟩) (by assumption) ?_
        rotate_left
        · (intro w' hSw; (try dsimp only at hSw); go_simp; try with_reducible rfl)
        try simp only [Act.put, List.getElem_toArray, List.getElem_cons_zero, List.getElem_cons_succ, List.setIfInBounds_toArray, List.set_cons_zero, List.set_cons_succ]
        refine wpAnyH_take (i := 11) (v := ?_) rfl (by kernel_rfl) (by kernel_rfl) (by kernel_rfl) (fun _ _ _ h => h) (Or.inl ⟨by rfl, ?_⟩) (by assumption) ?_
        rotate_left
        · (intro w' hSw; (try dsimp only at hSw); go_simp; try with_reducible rfl)
        try simp only [Act.put, List.getElem_toArray, List.getElem_cons_zero, List.getElem_cons_succ, List.setIfInBounds_toArray, List.set_cons_zero, List.set_cons_succ]
        refine wpAnyH_take (i := 12) (v := ?_) rfl (by kernel_rfl) (by kernel_rfl) (by kernel_rfl) (fun _ _ _ h => h) (Or.inl ⟨by rfl, ?_⟩) (by assumption) ?_
        rotate_left
        · (intro w' hSw; (try dsimp only at hSw); go_simp; try with_reducible rfl)
        try simp only [Act.put, List.getElem_toArray, List.getElem_cons_zero, List.getElem_cons_succ, List.setIfInBounds_toArray, List.set_cons_zero, List.set_cons_succ]
        refine wpAnyH_take (i := 13) (v := ?_) rfl (by kernel_rfl) (by kernel_rfl) (by kernel_rfl) (fun _ _ _ h => h) (Or.inl ⟨by rfl, ?_⟩) (by assumption) ?_
        rotate_left
        · (intro w' hSw; (try dsimp only at hSw); go_simp; try with_reducible rfl)
        try simp only [Act.put, List.getElem_toArray, List.getElem_cons_zero, List.getElem_cons_succ, List.setIfInBounds_toArray, List.set_cons_zero, List.set_cons_succ]
        refine wpAnyH_take (i := 15) (v := ?_) rfl (by kernel_rfl) (by kernel_rfl) (by kernel_rfl) (fun _ _ _ h => h) (Or.inl ⟨by rfl, ?_⟩) (by assumption) ?_
        rotate_left
        · (intro w' hSw; (try dsimp only at hSw); go_simp; try with_reducible rfl)
        try simp only [Act.put, List.getElem_toArray, List.getElem_cons_zero, List.getElem_cons_succ, List.setIfInBounds_toArray, List.set_cons_zero, List.set_cons_succ]
        refine wpAnyH_take (i := 16) (v := ?_) rfl (by kernel_rfl) (by kernel_rfl) (by kernel_rfl) (fun _ _ _ h => h) (Or.inl ⟨by rfl, ?_⟩) (by assumption) ?_
        rotate_left
        · (intro w' hSw; (try dsimp only at hSw); go_simp; try with_reducible rfl)
        try simp only [Act.put, List.getElem_toArray, List.getElem_cons_zero, List.getElem_cons_succ, List.setIfInBounds_toArray, List.set_cons_zero, List.set_cons_succ]
        refine wpAnyH_take (i := 17) (v := ?_) rfl (by kernel_rfl) (by kernel_rfl) (by kernel_rfl) (fun _ _ _ h => h) (Or.inl ⟨by rfl, ?_⟩) (by assumption) ?_
        rotate_left
        · (intro w' hSw; (try dsimp only at hSw); go_simp; try with_reducible rfl)
        try simp only [Act.put, List.getElem_toArray, List.getElem_cons_zero, List.getElem_cons_succ, List.setIfInBounds_toArray, List.set_cons_zero, List.set_cons_succ]
        refine wpAnyH_take (i := 18) (v := ?_) rfl (by kernel_rfl) (by kernel_rfl) (by kernel_rfl) (fun _ _ _ h => h) (Or.inl ⟨by rfl, ?_⟩) (by assumption) ?_
        rotate_left
        · (intro w' hSw; (try dsimp only at hSw); go_simp; try with_reducible rfl)
        try simp only [Act.put, List.getElem_toArray, List.getElem_cons_zero, List.getElem_cons_succ, List.setIfInBounds_toArray, List.set_cons_zero, List.set_cons_succ]
        refine wpAnyH_take (i := 19) (v := ?_) rfl (by kernel_rfl) (by kernel_rfl) (by kernel_rfl) (fun _ _ _ h => h) (Or.inl ⟨by rfl, ?_⟩) (by assumption) ?_
        rotate_left
        · (intro w' hSw; (try dsimp only at hSw); go_simp; try with_reducible rfl)
        try simp only [Act.put, List.getElem_toArray, List.getElem_cons_zero, List.getElem_cons_succ, List.setIfInBounds_toArray, List.set_cons_zero, List.set_cons_succ]
        refine wpAnyH_ready (rs := [14]) (by kernel_rfl) (by simp) ?_
        refine AllReadyH.cons rfl (fun K hK => ?_) AllReadyH.nil
        try simp only [Act.put, List.getElem_toArray, List.getElem_cons_zero, List.getElem_cons_succ, List.setIfInBounds_toArray, List.set_cons_zero, List.set_cons_succ]
        go_simp
        refine (HI1.out x3 B3).mono ?_
        rintro e x4 ⟨rfl, bq⟩
        have B4 : Below w3.heap.size w3 x4 := B3.trans (bq.mono B3.size)
        clear bq
        refine hK.out _ _ (cell_below (HB3.out.trans (B4.mono HB3.out.size)) HCX.out) (fun hHeld2 => ?_)
        clear hK K hHeld
        have hHeld := hHeld2
        clear hHeld2
        try simp only [Act.put, List.getElem_toArray, List.getElem_cons_zero, List.getElem_cons_succ, List.setIfInBounds_toArray, List.set_cons_zero, List.set_cons_succ]
        refine wpAnyH_ready (rs := [20]) (by kernel_rfl) (by simp) ?_
        refine AllReadyH.cons rfl (fun K hK => ?_) AllReadyH.nil
        try simp only [Act.put, List.getElem_toArray, List.getElem_cons_zero, List.getElem_cons_succ, List.setIfInBounds_toArray, List.set_cons_zero, List.set_cons_succ]
        go_simp
        refine (HD.out x4 B4).mono ?_
        rintro e x5 ⟨rfl, bq⟩
        have B5 : Below w3.heap.size w3 x5 := B4.trans (bq.mono B4.size)
        clear bq
        refine hK.out _ _ (cell_below (HB3.out.trans (B5.mono HB3.out.size)) HCX.out) (fun hHeld2 => ?_)
        clear hK K hHeld
        have hHeld := hHeld2
        clear hHeld2
        try simp only [Act.put, List.getElem_toArray, List.getElem_cons_zero, List.getElem_cons_succ, List.setIfInBounds_toArray, List.set_cons_zero, List.set_cons_succ]
        refine wpAnyH_take (i := 21) (v := ?_) rfl (by kernel_rfl) (by kernel_rfl) (by kernel_rfl) (fun _ _ _ h => h) (Or.inl ⟨by rfl, ?_⟩) (by assumption) ?_
        rotate_left
        · (intro w' hSw; (try dsimp only at hSw); go_simp; try with_reducible rfl)
        try simp only [Act.put, List.getElem_toArray, List.getElem_cons_zero, List.getElem_cons_succ, List.setIfInBounds_toArray, List.set_cons_zero, List.set_cons_succ]
        refine wpAnyH_take (i := 22) (v := ?_) rfl (by kernel_rfl) (by kernel_rfl) (by kernel_rfl) (fun _ _ _ h => h) (Or.inl ⟨by rfl, ?_⟩) (by assumption) ?_
        rotate_left
        · (intro w' hSw; (try dsimp only at hSw); go_simp; try with_reducible rfl)
        try simp only [Act.put, List.getElem_toArray, List.getElem_cons_zero, List.getElem_cons_succ, List.setIfInBounds_toArray, List.set_cons_zero, List.set_cons_succ]
        refine wpAnyH_done (by kernel_rfl) ?_ _
        refine NoPanic.normal ?_
        have HB7 : Hid (Below w3.heap.size w3 x5) := B5
        clear B3 B4 B5 cx
        go_wp2
        exact ⟨⟨(k : Int) + 1, by omega, by omega, rfl, HB7⟩, by simp [RowKit.intOf]; omega⟩
      · have hj3 : (0 : Int) ≤ j := by omega
        have hj4 : ¬ j < (n : Int) := hjn
        have hd1 : decide ((0 : Int) ≤ j) = true := decide_eq_true hj3
        have hd2 : decide (j < (n : Int)) = false := decide_eq_false hjn
        go_wp2
        refine wp_region_noPanic ?_
        refine wp_region_held_drew (S := fun _ => True) (by kernel_rfl) trivial (fun hHeld => ?_)
        have HBD : Hid (Below w3.heap.size w3 x2.drew) := HB5.out.drew
        generalize x2.drew = x3 at *
        refine wpAnyH_take (i := 0) (v := ?_) rfl (by kernel_rfl) (by kernel_rfl) (by kernel_rfl) (fun _ _ _ h => h) (Or.inl ⟨by rfl, ?_⟩) (by assumption) ?_
        rotate_left
        · (intro w' hSw; (try dsimp only at hSw); go_simp; try with_reducible rfl)
        try simp only [Act.put, List.getElem_toArray, List.getElem_cons_zero, List.getElem_cons_succ, List.setIfInBounds_toArray, List.set_cons_zero, List.set_cons_succ]
        refine wpAnyH_take (i := 1) (v := ?_) rfl (by kernel_rfl) (by kernel_rfl) (by kernel_rfl) (fun _ _ _ h => h) (Or.inl ⟨by rfl, ?_⟩) (by assumption) ?_
        rotate_left
        · (intro w' hSw; (try dsimp only at hSw); go_simp; try with_reducible rfl)
        try simp only [Act.put, List.getElem_toArray, List.getElem_cons_zero, List.getElem_cons_succ, List.setIfInBounds_toArray, List.set_cons_zero, List.set_cons_succ]
        try simp only [hd1]
        refine wpAnyH_take (i := 2) (v := ?_) rfl (by kernel_rfl) (by kernel_rfl) (by kernel_rfl) (fun _ _ _ h => h) (Or.inl ⟨by rfl, ?_⟩) (by assumption) ?_
        rotate_left
        · (intro w' hSw; (try dsimp only at hSw); go_simp; try with_reducible rfl)
        try simp only [Act.put, List.getElem_toArray, List.getElem_cons_zero, List.getElem_cons_succ, List.setIfInBounds_toArray, List.set_cons_zero, List.set_cons_succ]
        refine wpAnyH_take (i := 3) (v := ?_) rfl (by kernel_rfl) (by kernel_rfl) (by kernel_rfl) (fun _ _ _ h => h) (Or.inl ⟨by rfl, ?_⟩) (by assumption) ?_
        rotate_left
        · (intro w' hSw; (try dsimp only at hSw); go_simp; try with_reducible rfl)
        try simp only [Act.put, List.getElem_toArray, List.getElem_cons_zero, List.getElem_cons_succ, List.setIfInBounds_toArray, List.set_cons_zero, List.set_cons_succ]
        refine wpAnyH_take (i := 4) (v := ?_) rfl (by kernel_rfl) (by kernel_rfl) (by kernel_rfl) (fun _ _ _ h => h) (Or.inl ⟨by rfl, ?_⟩) (by assumption) ?_
        rotate_left
        · (intro w' hSw; (try dsimp only at hSw); go_simp; try with_reducible rfl)
        try simp only [Act.put, List.getElem_toArray, List.getElem_cons_zero, List.getElem_cons_succ, List.setIfInBounds_toArray, List.set_cons_zero, List.set_cons_succ]
        refine wpAnyH_take (i := 5) (v := ?_) rfl (by kernel_rfl) (by kernel_rfl) (by kernel_rfl) (fun _ _ _ h => h) (Or.inl ⟨by rfl, ?_⟩) (by assumption) ?_
        rotate_left
        · (intro w' hSw; (try dsimp only at hSw); go_simp; try with_reducible rfl)
        try simp only [Act.put, List.getElem_toArray, List.getElem_cons_zero, List.getElem_cons_succ, List.setIfInBounds_toArray, List.set_cons_zero, List.set_cons_succ]
        refine wpAnyH_take (i := 6) (v := ?_) rfl (by kernel_rfl) (by kernel_rfl) (by kernel_rfl) (fun _ _ _ h => h) (Or.inl ⟨by rfl, ?_⟩) (by assumption) ?_
        rotate_left
        · (intro w' hSw; (try dsimp only at hSw); go_simp; try with_reducible rfl)
        try simp only [Act.put, List.getElem_toArray, List.getElem_cons_zero, List.getElem_cons_succ, List.setIfInBounds_toArray, List.set_cons_zero, List.set_cons_succ]
        try simp only [hd2]
        refine wpAnyH_take (i := 7) (v := ?_) rfl (by kernel_rfl) (by kernel_rfl) (by kernel_rfl) (fun _ _ _ h => h) (Or.inl ⟨by rfl, ?_⟩) (by assumption) ?_
        rotate_left
        · (intro w' hSw; (try dsimp only at hSw); go_simp; try with_reducible rfl)
        try simp only [Act.put, List.getElem_toArray, List.getElem_cons_zero, List.getElem_cons_succ, List.setIfInBounds_toArray, List.set_cons_zero, List.set_cons_succ]
        refine wpAnyH_take (i := 8) (v := ?_) rfl (by kernel_rfl) (by kernel_rfl) (by kernel_rfl) (fun _ _ _ h => h) (Or.inl ⟨by rfl, ?_⟩) (by assumption) ?_
        rotate_left
        · (intro w' hSw; (try dsimp only at hSw); go_simp; try with_reducible rfl)
        try simp only [Act.put, List.getElem_toArray, List.getElem_cons_zero, List.getElem_cons_succ, List.setIfInBounds_toArray, List.set_cons_zero, List.set_cons_succ]
        refine wpAnyH_take (i := 9) (v := undef) rfl (by kernel_rfl) (by kernel_rfl) (by kernel_rfl) (fun _ _ _ h => h) (Or.inr ⟨by kernel_rfl, rfl⟩) (by assumption) ?_
        try simp only [Act.put, List.getElem_toArray, List.getElem_cons_zero, List.getElem_cons_succ, List.setIfInBounds_toArray, List.set_cons_zero, List.set_cons_succ]
        refine wpAnyH_take (i := 10) (v := undef) rfl (by kernel_rfl) (by kernel_rfl) (by kernel_rfl) (fun _ _ _ h => h) (Or.inr ⟨by kernel_rfl, rfl⟩) (by assumption) ?_
        try simp only [Act.put, List.getElem_toArray, List.getElem_cons_zero, List.getElem_cons_succ, List.setIfInBounds_toArray, List.set_cons_zero, List.set_cons_succ]
        refine wpAnyH_take (i := 11) (v := undef) rfl (by kernel_rfl) (by kernel_rfl) (by kernel_rfl) (fun _ _ _ h => h) (Or.inr ⟨by kernel_rfl, rfl⟩) (by assumption) ?_
        try simp only [Act.put, List.getElem_toArray, List.getElem_cons_zero, List.getElem_cons_succ, List.setIfInBounds_toArray, List.set_cons_zero, List.set_cons_succ]
        refine wpAnyH_take (i := 12) (v := undef) rfl (by kernel_rfl) (by kernel_rfl) (by kernel_rfl) (fun _ _ _ h => h) (Or.inr ⟨by kernel_rfl, rfl⟩) (by assumption) ?_
        try simp only [Act.put, List.getElem_toArray, List.getElem_cons_zero, List.getElem_cons_succ, List.setIfInBounds_toArray, List.set_cons_zero, List.set_cons_succ]
        refine wpAnyH_take (i := 13) (v := undef) rfl (by kernel_rfl) (by kernel_rfl) (by kernel_rfl) (fun _ _ _ h => h) (Or.inr ⟨by kernel_rfl, rfl⟩) (by assumption) ?_
        try simp only [Act.put, List.getElem_toArray, List.getElem_cons_zero, List.getElem_cons_succ, List.setIfInBounds_toArray, List.set_cons_zero, List.set_cons_succ]
        refine wpAnyH_take (i := 14) (v := undef) rfl (by kernel_rfl) (by kernel_rfl) (by kernel_rfl) (fun _ _ _ h => h) (Or.inr ⟨by kernel_rfl, rfl⟩) (by assumption) ?_
        try simp only [Act.put, List.getElem_toArray, List.getElem_cons_zero, List.getElem_cons_succ, List.setIfInBounds_toArray, List.set_cons_zero, List.set_cons_succ]
        refine wpAnyH_take (i := 15) (v := undef) rfl (by kernel_rfl) (by kernel_rfl) (by kernel_rfl) (fun _ _ _ h => h) (Or.inr ⟨by kernel_rfl, rfl⟩) (by assumption) ?_
        try simp only [Act.put, List.getElem_toArray, List.getElem_cons_zero, List.getElem_cons_succ, List.setIfInBounds_toArray, List.set_cons_zero, List.set_cons_succ]
        refine wpAnyH_take (i := 16) (v := undef) rfl (by kernel_rfl) (by kernel_rfl) (by kernel_rfl) (fun _ _ _ h => h) (Or.inr ⟨by kernel_rfl, rfl⟩) (by assumption) ?_
        try simp only [Act.put, List.getElem_toArray, List.getElem_cons_zero, List.getElem_cons_succ, List.setIfInBounds_toArray, List.set_cons_zero, List.set_cons_succ]
        refine wpAnyH_take (i := 17) (v := undef) rfl (by kernel_rfl) (by kernel_rfl) (by kernel_rfl) (fun _ _ _ h => h) (Or.inr ⟨by kernel_rfl, rfl⟩) (by assumption) ?_
        try simp only [Act.put, List.getElem_toArray, List.getElem_cons_zero, List.getElem_cons_succ, List.setIfInBounds_toArray, List.set_cons_zero, List.set_cons_succ]
        refine wpAnyH_take (i := 18) (v := undef) rfl (by kernel_rfl) (by kernel_rfl) (by kernel_rfl) (fun _ _ _ h => h) (Or.inr ⟨by kernel_rfl, rfl⟩) (by assumption) ?_
        try simp only [Act.put, List.getElem_toArray, List.getElem_cons_zero, List.getElem_cons_succ, List.setIfInBounds_toArray, List.set_cons_zero, List.set_cons_succ]
        refine wpAnyH_take (i := 19) (v := undef) rfl (by kernel_rfl) (by kernel_rfl) (by kernel_rfl) (fun _ _ _ h => h) (Or.inr ⟨by kernel_rfl, rfl⟩) (by assumption) ?_
        try simp only [Act.put, List.getElem_toArray, List.getElem_cons_zero, List.getElem_cons_succ, List.setIfInBounds_toArray, List.set_cons_zero, List.set_cons_succ]
        refine wpAnyH_take (i := 20) (v := undef) rfl (by kernel_rfl) (by kernel_rfl) (by kernel_rfl) (fun _ _ _ h => h) (Or.inr ⟨by kernel_rfl, rfl⟩) (by assumption) ?_
        try simp only [Act.put, List.getElem_toArray, List.getElem_cons_zero, List.getElem_cons_succ, List.setIfInBounds_toArray, List.set_cons_zero, List.set_cons_succ]
        refine wpAnyH_take (i := 21) (v := undef) rfl (by kernel_rfl) (by kernel_rfl) (by kernel_rfl) (fun _ _ _ h => h) (Or.inr ⟨by kernel_rfl, rfl⟩) (by assumption) ?_
        try simp only [Act.put, List.getElem_toArray, List.getElem_cons_zero, List.getElem_cons_succ, List.setIfInBounds_toArray, List.set_cons_zero, List.set_cons_succ]
        refine wpAnyH_take (i := 22) (v := ?_) rfl (by kernel_rfl) (by kernel_rfl) (by kernel_rfl) (fun _ _ _ h => h) (Or.inl ⟨by rfl, ?_⟩) (by assumption) ?_
        rotate_left
        · (intro w' hSw; (try dsimp only at hSw); go_simp; try with_reducible rfl)
        try simp only [Act.put, List.getElem_toArray, List.getElem_cons_zero, List.getElem_cons_succ, List.setIfInBounds_toArray, List.set_cons_zero, List.set_cons_succ]
        refine wpAnyH_done (by kernel_rfl) ?_ _
        refine NoPanic.normal ?_
        go_wp2
        exact ⟨⟨j + 1, by omega, by omega, rfl, HBD⟩, by simp [RowKit.intOf]; omega⟩
    · have hge : ¬ j ≤ (n : Int) + 1 := hlt
      have HBW : Hid (Below w.heap.size w wr) := HB3.out.trans (HB.out.mono HB3.out.size)
      have C := awake_any wr (HE.out.below HBW.out)
      clear HB
      go_wp2_with fail
      refine C.mono ?_
      rintro e x2 ⟨rfl, bx⟩
      clear C
      have HB5 : Hid (Below w.heap.size w x2) := HBW.out.trans (bx.mono HBW.out.size)
      clear HBW bx
      go_wp2
      go_ret
      exact ⟨rfl, HB5.out⟩
end Go.Proofs.YtcmhkfiijdomiaaGreatDoor.wrd
end
