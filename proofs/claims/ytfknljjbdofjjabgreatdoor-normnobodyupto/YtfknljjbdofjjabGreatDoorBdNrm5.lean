/- Texts that the proof leans on, one behind the other. -/
import Derived.Test.YtfknljjbdofjjabGreatDoorBdNrm3
import Derived.Test.YtfknljjbdofjjabGreatDoorBdNrm4

section
/- Tables that no call made: norm's answers. -/
set_option linter.unusedVariables false
set_option linter.unusedSimpArgs false
namespace Go.Proofs.YtfknljjbdofjjabGreatDoor.nrm
open Go.Shelf Go.RowKit Go.Lib Go.Sort Go.Proofs
open Go.Proofs.YtfknljjbdofjjabGreatDoor.prp Go.Proofs.YtfknljjbdofjjabGreatDoor.nfd Go.Proofs.YtfknljjbdofjjabGreatDoor.lin Go.Proofs.YtfknljjbdofjjabGreatDoor.dcp

set_option maxRecDepth 1000000 in
theorem full_un (v : Value) (r : Int) (w : World) (h : Unmade w v) : Calls Tryz.prog 60 #[v, .int .i64 r] w fun e w' => e = .returned (.slice none 0 0) ∧ w' = w := by
  have C := dcp.made_no v w h
  clear h
  go_enter Tryz.func60, Tryz.ntmps60
  go_wp2
  refine wp_scope_straight ?_
  go_wp2_with fail
  refine C.mono ?_
  rintro e w1 ⟨rfl, hw⟩
  rw [hw]
  clear C
  go_wp2
  try rw [Exit.noGoto_ret]
  go_ret
  exact ⟨rfl, rfl⟩
set_option maxHeartbeats 1000000 in
set_option maxRecDepth 1000000 in
theorem apart_un (tv v : Value) (l : List nfd.I) (w : World) (hT : Unmade w tv) (hv : IVI w v l) (hl : l.length ≤ 9223372036854775807) :
    Calls Tryz.prog 45 #[tv, v] w fun e w' => e = .returned (.slice none 0 0) ∧ Below w.heap.size w w' := by
  obtain ⟨ao, cap, rfl, hcells⟩ := hv
  have HT : Hid (Unmade w tv) := hT
  have HC : Hid (∀ k, k < l.length → ∃ x1 x2 x3 b o, ao = some ⟨b, o, none⟩ ∧ w.cell? ⟨b, o + k * 3, none⟩ = some (.int .i64 x1) ∧ w.cell? ⟨b, o + k * 3 + 1, none⟩ = some (.int .i64 x2) ∧ w.cell? ⟨b, o + k * 3 + 2, none⟩ = some (.int .i64 x3)) := fun k hk => by
    obtain ⟨b, o, e, hc⟩ := hcells (by omega)
    obtain ⟨c1, c2, c3⟩ := hc k _ (List.getElem?_eq_getElem hk)
    exact ⟨_, _, _, b, o, e, c1, c2, c3⟩
  clear hcells hT
  generalize l.length = nl at *
  go_enter Tryz.func45, Tryz.ntmps45
  go_wp2
  go_loopw [5, 12] (fun v i wr => ∃ k : Nat, k ≤ nl ∧ i = .int .i64 k ∧ v = .slice none 0 0 ∧ Hid (Below w.heap.size w wr)) (fun _ i _ => nl - (RowKit.intOf i).toNat)
  case atStart => exact ⟨0, Nat.zero_le _, rfl, rfl, Below.refl _ _⟩
  case round =>
    obtain ⟨k, hk, rfl, rfl, HB⟩ := hrel
    by_cases hlt : k < nl
    · have hlt' : (k : Int) < (nl : Int) := by omega
      have hk0 : (0 : Int) ≤ (k : Int) := by omega
      obtain ⟨r, s, e, b, o, rfl, c1, c2, c3⟩ := HC.out k hlt
      have d1 := cell_below HB.out c1
      have d2 := cell_below HB.out c2
      have d3 := cell_below HB.out c3
      have HBW : Hid (Below wr.heap.size wr (wr.alloc (.cells #[.int .i64 r, .int .i64 s, .int .i64 e] 40))) := (Below.refl _ wr).alloc (Nat.le_refl _) _
      have HBX : Hid (Below w.heap.size w (wr.alloc (.cells #[.int .i64 r, .int .i64 s, .int .i64 e] 40))) := HB.out.trans (HBW.out.mono HB.out.size)
      have C := full_un tv r _ (HT.out.below HBX.out)
      clear c1 c2 c3
      go_wp2_with fail
      refine C.mono ?_
      rintro e' w2 ⟨rfl, hw⟩
      rw [hw]
      clear C hw
      go_wp2
      refine wp_loop_rounds 1 ?_
      rw [rounds_succ]
      go_wp2
      go_roundw
      case rel => exact ⟨k + 1, by omega, by go_num, rfl, HBX⟩
      case measure => simp [RowKit.intOf]; omega
    · have hlt' : ¬ (k : Int) < (nl : Int) := by omega
      go_wp2
      go_ret
      exact ⟨rfl, HB.out⟩
set_option maxHeartbeats 1000000 in
set_option maxRecDepth 1000000 in
theorem items_un (tv v : Value) (l : List nfd.I) (w : World) (hT : Unmade w tv) (hv : IVI w v l) (hl : l.length ≤ 9223372036854775807) :
    Calls Tryz.prog 20 #[tv, v] w fun e w' => e = .returned (.slice none 0 0) ∧ Below w.heap.size w w' := by
  have C := apart_un tv v l w hT hv hl
  have HO : Hid (∀ W, Calls Tryz.prog 46 #[tv, .slice none 0 0] W fun e w' => e = .returned (.tuple #[]) ∧ Below W.heap.size W w') := fun W => order_nil tv none 0 W (by rcases hT with h | ⟨t, h, _⟩; exact .inl h; exact .inr ⟨_, h⟩)
  obtain ⟨ao, cap, rfl, _⟩ := hv
  generalize l.length = nl at *
  clear hT
  go_enter Tryz.func20, Tryz.ntmps20
  go_wp2_with fail
  refine C.mono ?_
  rintro e w1 ⟨rfl, b1⟩
  clear C
  have C := HO.out w1
  have HB1 : Hid (Below w.heap.size w w1) := b1
  clear b1 HO
  go_wp2
  refine wp_loop_rounds 1 ?_
  rw [rounds_succ]
  go_wp2_with fail
  refine C.mono ?_
  rintro e w2 ⟨rfl, b2⟩
  have R : Hid (Below w.heap.size w w2) := HB1.out.trans (b2.mono HB1.out.size)
  clear C b2
  go_wp2
  go_ret
  exact ⟨rfl, R.out⟩
set_option maxHeartbeats 4000000 in
set_option maxRecDepth 1000000 in
theorem runes_un (tv v : Value) (l : List Int) (w : World) (hT : Unmade w tv) (hv : IV w v l) (hl : l.length ≤ 1000000000) :
    Calls Tryz.prog 13 #[tv, v] w fun e w' => e = .returned (.slice none 0 0) ∧ Below w.heap.size w w' := by
  obtain ⟨i0, hi, hz0, hz1, hz2⟩ := rng.info_parts infoItem
  obtain ⟨ao, cap, rfl, hcells⟩ := hv
  have HT : Hid (Unmade w tv) := hT
  obtain ⟨n, hn⟩ : ∃ n, l.length = n := ⟨_, rfl⟩
  have HC : Hid (∀ (k : Nat), k < n → ∃ r b o, ao = some ⟨b, o, none⟩ ∧ w.cell? ⟨b, o + k, none⟩ = some (.int .i64 r) ∧ l.take (k + 1) = l.take k ++ [r]) := fun k hk => by
    obtain ⟨b, o, e, hc⟩ := hcells (by omega)
    exact ⟨l[k], b, o, e, by rw [hc k (by omega), List.getD_eq_getElem?_getD, List.getElem?_eq_getElem (by omega)]; rfl, List.take_succ_eq_append_getElem (by omega)⟩
  have HI : Hid (∀ (W : World) (v : Value), Unmade W tv → IVI W v (l.map p0) → Calls Tryz.prog 20 #[tv, v] W fun e w' => e = .returned (.slice none 0 0) ∧ Below W.heap.size W w') := fun W v h1 h2 => items_un tv v (l.map p0) W h1 h2 (by rw [List.length_map]; omega)
  have HLT : Hid (l.take n = l) := by rw [← hn]; exact List.take_length
  have HLL : Hid (l.length = n) := hn
  rw [hn] at hl ⊢
  clear hcells hT hn
  go_enter Tryz.func13, Tryz.ntmps13
  go_wp2_with (refine wpList_make_full w rfl _ _ 37 rfl w.heap.size 40 i0 (.agg #[.int .i64 0, .int .i64 0, .int .i64 0]) 3 Tryz.underlying37 hi hz0 hz1 .i64 .i64 _ _ n rfl rfl rfl rfl (by rw [hz2]; omega) (by unfold maxLen; omega) (Nat.le_refl _) ?_)
  intro w1 hown1 hgrow1
  obtain ⟨gg, hgg⟩ : ∃ gg, w.heap.size = gg := ⟨_, rfl⟩
  have hsz1 : gg < w1.heap.size := by
    rcases hown1.2 with ⟨h0, _⟩ | ⟨g, c2, cur, hv, hg, hgh, _⟩
    · cases h0
    · cases hv; have := (Array.getElem?_eq_some_iff.1 hgh).1; omega
  have HP1 : Hid (PRow w1 gg (((l.take 0).map p0) ++ List.replicate (n - 0) (0, 0, 0))) := by
    rcases hown1.2 with ⟨h0, _⟩ | ⟨g, c2, cur, hv, hg, hgh, h3, h4, h5, h6⟩
    · cases h0
    · cases hv
      refine ⟨cur, by rw [← hgg]; exact hgh, ?_⟩
      have hfull : cur.toList.take (n * 3) = cur.toList := List.take_of_length_le (by rw [Array.length_toList, h5]; omega)
      rw [hfull] at h6
      exact h6.trans ((made_fl n).trans (by simp))
  have HB1 : Hid (Below w.heap.size w w1) := Below.grown (Below.refl _ _) hgrow1 (Nat.le_refl _) (fun k e => by cases e)
  clear hown1 hgrow1
  rw [hgg]
  go_wp2
  go_loopw [16] (fun i wr => ∃ k : Nat, k ≤ n ∧ i = .int .i64 k ∧ Hid (PRow wr gg (((l.take k).map p0) ++ List.replicate (n - k) (0, 0, 0))) ∧ Hid (Below w.heap.size w wr) ∧ gg < wr.heap.size) (fun i _ => n - (RowKit.intOf i).toNat)
  case atStart => exact ⟨0, Nat.zero_le _, rfl, HP1, HB1, hsz1⟩
  case round =>
    clear HP1 HB1 hsz1
    obtain ⟨k, hk, rfl, HP, HB, hsz⟩ := hrel
    by_cases hlt : k < n
    · have hlt' : (k : Int) < (n : Int) := by omega
      obtain ⟨r, b, o, rfl, hc, htk⟩ := HC.out k hlt
      have hc1 := cell_below HB.out hc
      have hpr := HP.out
      rw [rep_cons n k hlt] at hpr
      have hkl : ((l.take k).map p0).length = k := by rw [List.length_map, List.length_take, HLL.out]; omega
      have e1 : wr.cell? ⟨gg, k * 3, none⟩ = some (.int .i64 0) := by
        rw [hpr.cell, fl_append, List.getElem?_append_right (by rw [fl_length, hkl]; omega), fl_length, hkl, Nat.sub_self]
        rfl
      have e2 := hpr.frozen (k * 3)
      have R1 : Hid (PRow (wr.setCell ⟨gg, k * 3, none⟩ (.int .i64 r)) gg (((l.take (k + 1)).map p0) ++ List.replicate (n - (k + 1)) (0, 0, 0))) := by
        have := hpr.set r
        rw [hkl] at this
        show PRow _ _ _
        rw [htk, List.map_append, List.append_assoc]
        exact this
      have R2 : Hid (Below w.heap.size w (wr.setCell ⟨gg, k * 3, none⟩ (.int .i64 r))) := HB.out.setCell (by show w.heap.size ≤ gg; omega) _
      have R3 : gg < (wr.setCell ⟨gg, k * 3, none⟩ (.int .i64 r)).heap.size := by simp [World.setCell]; exact hsz
      clear HP HB hpr hc htk
      go_wp2
      go_roundw
      case rel => exact ⟨k + 1, by omega, by go_num, R1, R2, R3⟩
      case measure => simp [RowKit.intOf]; omega
    · obtain rfl : k = n := by omega
      have hlt' : ¬ (k : Int) < (k : Int) := by omega
      have hpr := HP.out
      rw [HLT.out, Nat.sub_self, List.replicate_zero, List.append_nil] at hpr
      have hiv := hpr.iv (cap := k)
      rw [List.length_map, HLL.out] at hiv
      have C := HI.out wr _ (HT.out.below HB.out) hiv
      have HBW : Hid (Below w.heap.size w wr) := HB.out
      clear HP hpr hiv HB HI
      go_wp2_with fail
      refine C.mono ?_
      rintro e w3 ⟨rfl, b3⟩
      clear C
      have R : Hid (Below w.heap.size w w3) := HBW.out.trans (b3.mono HBW.out.size)
      clear b3
      go_wp2
      refine wp_loop_rounds 1 ?_
      rw [rounds_succ]
      go_wp2
      go_ret
      exact ⟨rfl, R.out⟩
set_option maxRecDepth 1000000 in
theorem made_un (tv : Value) (w : World) (h : Unmade w tv) : Calls Tryz.prog 41 #[tv] w fun e w' => e = .returned (.bool false) ∧ w' = w := by
  have C := category_no tv 0 w h
  clear h
  go_enter Tryz.func41, Tryz.ntmps41
  go_wp2_with fail
  refine C.mono ?_
  rintro e w1 ⟨rfl, hw⟩
  rw [hw]
  clear C
  go_wp2
  go_ret
  exact ⟨rfl, rfl⟩
set_option maxRecDepth 1000000 in
theorem is_un (tv : Value) (a : Option Addr) (n c : Nat) (w : World) (h : Unmade w tv) : Calls Tryz.prog 15 #[tv, .slice a n c] w fun e w' => e = .returned (.bool false) ∧ w' = w := by
  have C := made_un tv w h
  clear h
  go_enter Tryz.func15, Tryz.ntmps15
  go_wp2_with fail
  refine C.mono ?_
  rintro e w1 ⟨rfl, hw⟩
  rw [hw]
  clear C
  go_wp2
  go_ret
  exact ⟨rfl, rfl⟩
theorem two_new (w : World) (o o' : Obj) : ((w.alloc o).alloc o').heap[w.heap.size + 1]? = some o' := by
  have := World.alloc_heap_new (w.alloc o) o'
  rwa [World.size_alloc] at this
set_option maxHeartbeats 4000000 in
set_option maxRecDepth 1000000 in
theorem nobody_walk (va : Value) (LA : List nfd.I) (vb : Value) (LB : List Int) (w : World) (ha : ArgI w va LA) (hb : ArgC w vb LB) (hlb : LB.length ≤ 1000000000) (E : Env w) : Calls Tryz.prog 8 #[va, vb] w fun e w' => e = .returned (.bool true) ∧ Below w.heap.size w w' := by
  have HE : Hid (Env w) := E
  have HA : Hid (IVI w va LA) := by obtain ⟨_, _, _, h, _⟩ := ha; exact h
  have HBv : Hid (IV w vb LB) := hb.iv
  obtain ⟨aa, ca, rfl, _, _, hca, hcm, _⟩ := ha
  obtain ⟨ab, cb, rfl, _, _, hcb, _, _⟩ := hb
  have hla : LA.length ≤ 9223372036854775807 := by omega
  obtain ⟨na, hna⟩ : ∃ na, LA.length = na := ⟨_, rfl⟩
  obtain ⟨nb, hnb⟩ : ∃ nb, LB.length = nb := ⟨_, rfl⟩
  rw [hna] at HA ⊢
  rw [hnb] at HBv ⊢
  clear E hca hcm hcb hna hnb
  go_enter Tryz.func8, Tryz.ntmps8
  go_wp2
  have HB : Hid (Below w.heap.size w ((w.alloc (.cells #[.pointer none, .slice none 0 0, .pointer none, .slice none 0 0, .pointer none, .slice none 0 0, .pointer none, .slice none 0 0, .pointer none, .slice none 0 0, .map none, .map none, .map none, .map none] 54)).alloc (.cells #[.pointer none, .pointer (some ⟨w.heap.size, 0, none⟩)] 23))) := ((Below.refl _ w).alloc (Nat.le_refl _) _).alloc (by simp) _
  have nb0 : ((w.alloc (.cells #[.pointer none, .slice none 0 0, .pointer none, .slice none 0 0, .pointer none, .slice none 0 0, .pointer none, .slice none 0 0, .pointer none, .slice none 0 0, .map none, .map none, .map none, .map none] 54)).alloc (.cells #[.pointer none, .pointer (some ⟨w.heap.size, 0, none⟩)] 23)).heap[w.heap.size]? = some (.cells #[.pointer none, .slice none 0 0, .pointer none, .slice none 0 0, .pointer none, .slice none 0 0, .pointer none, .slice none 0 0, .pointer none, .slice none 0 0, .map none, .map none, .map none, .map none] 54 (0, 0)) := by
    rw [Below.heap_alloc _ _ _ (by simp)]; exact World.alloc_heap_new _ _
  have nb1 : ((w.alloc (.cells #[.pointer none, .slice none 0 0, .pointer none, .slice none 0 0, .pointer none, .slice none 0 0, .pointer none, .slice none 0 0, .pointer none, .slice none 0 0, .map none, .map none, .map none, .map none] 54)).alloc (.cells #[.pointer none, .pointer (some ⟨w.heap.size, 0, none⟩)] 23)).heap[w.heap.size + 1]? = some (.cells #[.pointer none, .pointer (some ⟨w.heap.size, 0, none⟩)] 23 (0, 0)) := two_new _ _ _
  generalize (w.alloc (.cells #[.pointer none, .slice none 0 0, .pointer none, .slice none 0 0, .pointer none, .slice none 0 0, .pointer none, .slice none 0 0, .pointer none, .slice none 0 0, .map none, .map none, .map none, .map none] 54)).alloc (.cells #[.pointer none, .pointer (some ⟨w.heap.size, 0, none⟩)] 23) = W at *
  have d0 := cell_of_row W (w.heap.size + 1) 0 _ _ _ nb1
  have d1 := cell_of_row W (w.heap.size + 1) 1 _ _ _ nb1
  have d2 := cell_of_row W w.heap.size 0 _ _ _ nb0
  simp at d0 d1 d2
  have U1 : Hid (∀ V, Below W.heap.size W V → Unmade V (.pointer none)) := fun V _ => .inl rfl
  have U2 : Hid (∀ V, Below W.heap.size W V → Unmade V (.pointer (some ⟨w.heap.size, 0, none⟩))) := fun V hV => .inr ⟨_, rfl, cell_below hV d2⟩
  have HD1 : Hid (∀ V, Below W.heap.size W V → V.cell? ⟨w.heap.size + 1, 1, none⟩ = some (.pointer (some ⟨w.heap.size, 0, none⟩))) := fun V hV => cell_below hV d1
  have HEV : Hid (∀ V, Below W.heap.size W V → Env V) := fun V hV => HE.out.below (HB.out.trans (hV.mono HB.out.size))
  have HVA : Hid (∀ V, Below W.heap.size W V → IVI V (.slice aa na ca) LA) := fun V hV => HA.out.below (HB.out.trans (hV.mono HB.out.size))
  have HVB : Hid (∀ V, Below W.heap.size W V → IV V (.slice ab nb cb) LB) := fun V hV => HBv.out.below (HB.out.trans (hV.mono HB.out.size))
  have HR0 : Hid (Below W.heap.size W W) := Below.refl _ _
  clear nb0 nb1 d2 d1 HA HBv
  refine wp_loop_rounds 3 ?_
  rw [rounds_succ]
  have C := items_un (.pointer none) _ LA W (U1.out W HR0.out) (HVA.out W HR0.out) hla
  go_wp2_with fail
  refine C.mono ?_
  rintro e w1 ⟨rfl, b1⟩
  clear C
  have HB1 : Hid (Below W.heap.size W w1) := HR0.out.trans (b1.mono HR0.out.size)
  clear b1
  have C := runes_un (.pointer none) _ LB w1 (U1.out w1 HB1.out) (HVB.out w1 HB1.out) hlb
  go_wp2_with fail
  refine C.mono ?_
  rintro e w2 ⟨rfl, b2⟩
  clear C
  have HB2 : Hid (Below W.heap.size W w2) := HB1.out.trans (b2.mono HB1.out.size)
  clear b2 HB1
  have C := is_un (.pointer none) ab nb cb w2 (U1.out w2 HB2.out)
  go_wp2_with fail
  refine C.mono ?_
  rintro e w3 ⟨rfl, hw⟩
  rw [hw]
  clear C hw w3
  have dd := HD1.out w2 HB2.out
  go_wp2
  rw [rounds_succ]
  have C := items_un (.pointer (some ⟨w.heap.size, 0, none⟩)) _ LA w2 (U2.out w2 HB2.out) (HVA.out w2 HB2.out) hla
  go_wp2_with fail
  refine C.mono ?_
  rintro e w5 ⟨rfl, b5⟩
  clear C
  have HB5 : Hid (Below W.heap.size W w5) := HB2.out.trans (b5.mono HB2.out.size)
  clear b5
  have C := runes_un (.pointer (some ⟨w.heap.size, 0, none⟩)) _ LB w5 (U2.out w5 HB5.out) (HVB.out w5 HB5.out) hlb
  go_wp2_with fail
  refine C.mono ?_
  rintro e w6 ⟨rfl, b6⟩
  clear C
  have HB6 : Hid (Below W.heap.size W w6) := HB5.out.trans (b6.mono HB5.out.size)
  clear b6 HB5
  have C := is_un (.pointer (some ⟨w.heap.size, 0, none⟩)) ab nb cb w6 (U2.out w6 HB6.out)
  go_wp2_with fail
  refine C.mono ?_
  rintro e w7 ⟨rfl, hw⟩
  rw [hw]
  clear C hw w7
  have C := awake_any w6 (HEV.out w6 HB6.out)
  go_wp2
  rw [rounds_succ]
  go_wp2_with fail
  refine C.mono ?_
  rintro e w9 ⟨rfl, b9⟩
  clear C
  have R : Hid (Below w.heap.size w w9) := HB.out.trans ((HB6.out.trans (b9.mono HB6.out.size)).mono HB.out.size)
  clear b9
  go_wp2
  go_ret
  exact ⟨rfl, R.out⟩
end Go.Proofs.YtfknljjbdofjjabGreatDoor.nrm
end
