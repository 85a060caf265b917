/- Texts that the proof leans on, one behind the other. -/
import Derived.Test.YtfknljjbdofjjaaGreatDoorBdDcp3
import Derived.Test.YtfknljjbdofjjaaGreatDoorBdPrp9

section
/- rubricatorref07.Members, rubricatorref07.Singles. -/
set_option linter.unusedVariables false
set_option linter.unusedSimpArgs false
namespace Go.Proofs.YtfknljjbdofjjaaGreatDoor.dcp
open Go.RowKit Go.Maps lin prp

theorem dec_cand {k : Nat} {x : RL} (h : decL[k]? = some x) : x.1 ∈ candL := List.mem_map.2 ⟨x, List.mem_of_getElem? h, rfl⟩
theorem sin_neg : candL.filter (fun r => decide (¬ 1 < (fullL r).length)) = sinL := by
  unfold sinL
  refine List.filter_congr fun r hr => ?_
  have := mem_sin r hr
  by_cases h : (fullL r).length = 1 <;> simp_all
set_option maxHeartbeats 2000000 in
set_option maxRecDepth 1000000 in
theorem rsome_mem (u : Nat) (w : World) (h : RTabs w u) : Calls Tryz.prog 47 #[.pointer (some ⟨u, 0, none⟩), .bool true] w fun e w' => ∃ v, e = .returned v ∧ IOwn w' w.heap.size v (candL.filter (fun r => decide (1 < (fullL r).length))) ∧ Below w.heap.size w w' := by
  obtain ⟨i0, hi, hz0, hy1, hz2⟩ := info_parts infoInt
  obtain ⟨vd, hcd, hVd⟩ := h.dec
  obtain ⟨rb, ro, rc, rfl, hrec⟩ := view_recs hVd dec_ok.1
  have HT : Hid (RTabs w u) := h
  have HREC : Hid (∀ (i : Nat) (r : RL), decL[i]? = some r → ∃ g o2 c2, RecM w rb (ro + i * 3) r g o2 c2) := hrec
  have HN : Hid (∀ k, k < decL.length → ∃ x, decL[k]? = some x ∧ x.1 = x.2.1 ∧ 0 ≤ x.1 ∧ x.1 ≤ 1114111) := fun k hk => ⟨_, List.getElem?_eq_getElem hk, dec_one _ (List.getElem_mem hk), (show ∀ x ∈ decL, 0 ≤ x.1 ∧ x.1 ≤ 1114111 by decide +kernel) _ (List.getElem_mem hk)⟩
  have HTK : Hid (∀ (k : Nat) (x : RL), decL[k]? = some x → candL.take (k + 1) = candL.take k ++ [x.1]) := fun k x h => cand_take h
  have HFL : Hid (∀ k, ((candL.take k).filter (fun r => decide (1 < (fullL r).length))).length ≤ 1000) := fun k => by
    have h1 := List.length_filter_le (fun r => decide (1 < (fullL r).length)) (candL.take k)
    have h2 := cand_len
    rw [List.length_take] at h1
    omega
  have HALL : Hid (candL.take decL.length = candL) := by rw [← cand_n]; exact List.take_length
  have hn1 : decL.length ≤ 1000 := dec_ok.2.1
  clear h hVd hrec
  generalize decL.length = n at *
  go_enter Tryz.func47, Tryz.ntmps47
  go_wp2
  go_loopw [5, 14] (fun v i wr => ∃ k : Nat, k ≤ n ∧ i = .int .i64 k ∧ Hid (IOwn wr w.heap.size v ((candL.take k).filter (fun r => decide (1 < (fullL r).length)))) ∧ Hid (Below w.heap.size w wr)) (fun _ i _ => n - (RowKit.intOf i).toNat)
  case atStart => exact ⟨0, Nat.zero_le _, rfl, World.ownsRow_nil _ _ _ _, Below.refl _ _⟩
  case round =>
    obtain ⟨k, hk, rfl, HO, HB⟩ := hrel
    by_cases hlt : k < n
    · have hlt' : (k : Int) < (n : Int) := by omega
      obtain ⟨x, hx, hx1, hx2, hx3⟩ := HN.out k hlt
      obtain ⟨fg, fo, fc, hrm0⟩ := HREC.out k x hx
      have hrm := hrm0.below HB.out
      have q0 := hrm.lo
      have q1 := hrm.hi
      have q2 := hrm.fv
      have HK := HTK.out k x hx
      have hfl := HFL.out k
      obtain ⟨ya, yc, rfl⟩ := own_slice HO.out
      obtain ⟨lo, hi', fs⟩ := x
      simp only at q0 q1 q2 hx1 hx2 hx3 HK
      subst hx1
      have HKK : Hid (candL.take (k + 1) = candL.take k ++ [lo]) := HK
      have hsz : w.heap.size ≤ wr.heap.size := HB.out.size
      clear hrm hrm0 hx HK
      generalize hTL : ((candL.take k).filter (fun r => decide (1 < (fullL r).length))).length = tl at *
      generalize fs.length = n3 at *
      obtain ⟨WR, hWR⟩ : ∃ WR, WR = wr.alloc (.cells #[.int .i64 lo, .int .i64 lo, .slice (some ⟨fg, fo, none⟩) n3 fc] 69) := ⟨_, rfl⟩
      have bA : Below wr.heap.size wr WR := by rw [hWR]; exact (Below.refl _ wr).alloc (Nat.le_refl _) _
      have nbA : WR.heap[wr.heap.size]? = some (.cells #[.int .i64 lo, .int .i64 lo, .slice (some ⟨fg, fo, none⟩) n3 fc] 69 (0, 0)) := by rw [hWR]; exact World.alloc_heap_new _ _
      have C := rfull_any u lo WR (HT.out.below (HB.out.trans (bA.mono hsz)))
      rw [hWR] at C
      have wlo : IntKind.i64.wrap (lo + 1) = lo + 1 := by rw [IntKind.wrap_i64]; omega
      have hle : lo ≤ lo := Int.le_refl _
      go_wp2
      refine wp_loop_rounds 2 ?_
      rw [rounds_succ]
      go_wp2_with fail
      refine C.mono ?_
      rintro e w3 ⟨v3, rfl, hv3, b3⟩
      rw [← hWR] at hv3 b3
      obtain ⟨za, zc, hz⟩ := own_slice hv3
      subst hz
      have HB3 : Hid (Below wr.heap.size wr w3) := bA.trans (b3.mono bA.size)
      have nb3 : w3.heap[wr.heap.size]? = some (.cells #[.int .i64 lo, .int .i64 lo, .slice (some ⟨fg, fo, none⟩) n3 fc] 69 (0, 0)) := (b3.block _ (Array.getElem?_eq_some_iff.1 nbA).1).trans nbA
      have HO3 : Hid (w3.ownsRow w.heap.size 3 1 (.slice ya tl yc) tl (((candL.take k).filter (fun r => decide (1 < (fullL r).length))).map (Value.int .i64))) := by
        have := own_below HO.out HB3.out
        rw [hTL] at this
        exact this
      have hneq : (Value.slice ya tl yc).ownBlock ≠ some wr.heap.size := fun e => by have := (HO.out.lt _ e).2; omega
      have HNE : Hid ((Value.slice ya tl yc).ownBlock ≠ some wr.heap.size) := hneq
      have HN3 : Hid (w3.heap[wr.heap.size]? = some (.cells #[.int .i64 lo, .int .i64 lo, .slice (some ⟨fg, fo, none⟩) n3 fc] 69 (0, 0))) := nb3
      have hnlt : ¬ lo + 1 ≤ lo := by omega
      have hsz3 : w.heap.size ≤ w3.heap.size := by have := HB3.out.size; omega
      clear C hv3 b3 hWR bA nbA hneq nb3
      by_cases hq : 1 < (fullL lo).length
      · have HFT : Hid ((candL.take (k + 1)).filter (fun r => decide (1 < (fullL r).length)) = (candL.take k).filter (fun r => decide (1 < (fullL r).length)) ++ [lo]) := by
          show _ = _
          rw [HKK.out, List.filter_append, List.filter_cons_of_pos (by simpa using hq)]
          rfl
        have hq2 : ((fullL lo).length : Int) > 1 := by have h9 := hq; omega
        clear hq
        generalize hFN : (fullL lo).length = fn at *
        have hq3 : decide ((fn : Int) > 1) = true := decide_eq_true (by omega)
        have hq4 : decide ((1 : Int) < (fn : Int)) = true := decide_eq_true (by omega)
        go_wp2_with (at_builtin; refine wpList_append_own _ rfl _ _ 22 rfl w.heap.size 3 i0 (.int .i64 0) 1 8 Tryz.underlying22 hi hz0 hy1 hz2 rfl (by decide) _ _ _ rfl (HO3.out.alloc _) ⟨w3.heap.size, 0, none⟩ 1 1 [.int .i64 lo] rfl rfl (cell_one_new _ _ _) ?c2 ?c3 ?c4 ?c5 ?_)
        case c2 => first | (intro u hu; simp at hu; subst hu; rfl) | simp [Value.oneCell']
        case c3 => unfold maxLen; omega
        case c4 => omega
        case c5 => first | omega | (simp; omega)
        intro v' w5 hown5 hgrow _
        have R2 : Hid (Below w.heap.size w w5) := Below.grown ((HB.out.trans (HB3.out.mono hsz)).alloc hsz3 _) hgrow (by simp; omega) (fun k e => (HO3.out.lt k e).1)
        have R1 : Hid (IOwn w5 w.heap.size v' ((candL.take (k + 1)).filter (fun r => decide (1 < (fullL r).length)))) := by
          show IOwn _ _ _ _
          unfold IOwn
          rw [HFT.out, List.length_append, List.length_singleton, List.map_append, hTL]
          simpa using hown5
        have hrc : w5.heap[wr.heap.size]? = some (.cells #[.int .i64 lo, .int .i64 lo, .slice (some ⟨fg, fo, none⟩) n3 fc] 69 (0, 0)) :=
          (hgrow.block _ (by simp; have := (Array.getElem?_eq_some_iff.1 HN3.out).1; omega) (fun e => HNE.out e.symm)).trans ((Below.heap_alloc _ _ _ (Array.getElem?_eq_some_iff.1 HN3.out).1).trans HN3.out)
        have c4 := cell_of_row w5 wr.heap.size 1 _ _ _ hrc
        simp at c4
        obtain ⟨xa', xc', rfl⟩ := own_slice hown5
        clear hown5 hgrow HO3 HO HB hrc
        go_wp2
        rw [rounds_succ]
        go_wp2
        go_roundw
        case rel => exact ⟨k + 1, by omega, by go_num, R1, R2⟩
        case measure => simp [RowKit.intOf]; omega
      · have HFT : Hid ((candL.take (k + 1)).filter (fun r => decide (1 < (fullL r).length)) = (candL.take k).filter (fun r => decide (1 < (fullL r).length))) := by
          show _ = _
          rw [HKK.out, List.filter_append, List.filter_cons_of_neg (by simpa using hq)]
          simp
        have hq2 : ¬ ((fullL lo).length : Int) > 1 := by have h9 := hq; omega
        clear hq
        generalize hFN : (fullL lo).length = fn at *
        have hq3 : decide ((fn : Int) > 1) = false := decide_eq_false (by omega)
        have hq4 : decide ((1 : Int) < (fn : Int)) = false := decide_eq_false (by omega)
        have c4 := cell_of_row w3 wr.heap.size 1 _ _ _ HN3.out
        simp at c4
        have R2 : Hid (Below w.heap.size w w3) := HB.out.trans (HB3.out.mono hsz)
        have R1 : Hid (IOwn w3 w.heap.size (.slice ya tl yc) ((candL.take (k + 1)).filter (fun r => decide (1 < (fullL r).length)))) := by
          show IOwn _ _ _ _
          unfold IOwn
          rw [HFT.out, hTL]
          exact HO3.out
        clear HO3 HO HB
        go_wp2
        rw [rounds_succ]
        go_wp2
        go_roundw
        case rel => exact ⟨k + 1, by omega, by go_num, R1, R2⟩
        case measure => simp [RowKit.intOf]; omega
    · obtain rfl : k = n := by omega
      have hlt' : ¬ (k : Int) < (k : Int) := by omega
      obtain ⟨ya, yc, rfl⟩ := own_slice HO.out
      have R1 : Hid (IOwn wr w.heap.size (.slice ya ((candL.take k).filter (fun r => decide (1 < (fullL r).length))).length yc) (candL.filter (fun r => decide (1 < (fullL r).length)))) := by
        have h1 := HO.out
        rw [HALL.out] at h1 ⊢
        exact h1
      clear HO
      generalize ((candL.take k).filter (fun r => decide (1 < (fullL r).length))).length = tl at *
      go_wp2
      go_ret
      exact ⟨_, rfl, R1.out, HB.out⟩
set_option maxRecDepth 1000000 in
theorem rmems_any (u : Nat) (w : World) (h : RTabs w u) : Calls Tryz.prog 17 #[.pointer (some ⟨u, 0, none⟩)] w fun e w' => ∃ v, e = .returned v ∧ IOwn w' w.heap.size v memL ∧ Below w.heap.size w w' := by
  have C := rsome_mem u w h
  rw [show candL.filter (fun r => decide (1 < (fullL r).length)) = memL from rfl] at C
  clear h
  generalize memL = L at *
  go_enter Tryz.func17, Tryz.ntmps17
  go_wp2_with fail
  refine C.mono ?_
  rintro e w1 ⟨v, rfl, hv, hb⟩
  obtain ⟨va, vc, rfl⟩ := own_slice hv
  have H : Hid (IOwn w1 w.heap.size (.slice va L.length vc) L ∧ Below w.heap.size w w1) := ⟨hv, hb⟩
  clear C hv hb
  generalize L.length = n at *
  go_wp2
  go_ret
  exact ⟨_, rfl, H.out⟩
set_option maxHeartbeats 2000000 in
set_option maxRecDepth 1000000 in
theorem rsome_sin (u : Nat) (w : World) (h : RTabs w u) : Calls Tryz.prog 47 #[.pointer (some ⟨u, 0, none⟩), .bool false] w fun e w' => ∃ v, e = .returned v ∧ IOwn w' w.heap.size v (candL.filter (fun r => decide (¬ 1 < (fullL r).length))) ∧ Below w.heap.size w w' := by
  obtain ⟨i0, hi, hz0, hy1, hz2⟩ := info_parts infoInt
  obtain ⟨vd, hcd, hVd⟩ := h.dec
  obtain ⟨rb, ro, rc, rfl, hrec⟩ := view_recs hVd dec_ok.1
  have HT : Hid (RTabs w u) := h
  have HREC : Hid (∀ (i : Nat) (r : RL), decL[i]? = some r → ∃ g o2 c2, RecM w rb (ro + i * 3) r g o2 c2) := hrec
  have HN : Hid (∀ k, k < decL.length → ∃ x, decL[k]? = some x ∧ x.1 = x.2.1 ∧ 0 ≤ x.1 ∧ x.1 ≤ 1114111) := fun k hk => ⟨_, List.getElem?_eq_getElem hk, dec_one _ (List.getElem_mem hk), (show ∀ x ∈ decL, 0 ≤ x.1 ∧ x.1 ≤ 1114111 by decide +kernel) _ (List.getElem_mem hk)⟩
  have HTK : Hid (∀ (k : Nat) (x : RL), decL[k]? = some x → candL.take (k + 1) = candL.take k ++ [x.1]) := fun k x h => cand_take h
  have HFL : Hid (∀ k, ((candL.take k).filter (fun r => decide (¬ 1 < (fullL r).length))).length ≤ 1000) := fun k => by
    have h1 := List.length_filter_le (fun r => decide (¬ 1 < (fullL r).length)) (candL.take k)
    have h2 := cand_len
    rw [List.length_take] at h1
    omega
  have HALL : Hid (candL.take decL.length = candL) := by rw [← cand_n]; exact List.take_length
  have hn1 : decL.length ≤ 1000 := dec_ok.2.1
  clear h hVd hrec
  generalize decL.length = n at *
  go_enter Tryz.func47, Tryz.ntmps47
  go_wp2
  go_loopw [5, 14] (fun v i wr => ∃ k : Nat, k ≤ n ∧ i = .int .i64 k ∧ Hid (IOwn wr w.heap.size v ((candL.take k).filter (fun r => decide (¬ 1 < (fullL r).length)))) ∧ Hid (Below w.heap.size w wr)) (fun _ i _ => n - (RowKit.intOf i).toNat)
  case atStart => exact ⟨0, Nat.zero_le _, rfl, World.ownsRow_nil _ _ _ _, Below.refl _ _⟩
  case round =>
    obtain ⟨k, hk, rfl, HO, HB⟩ := hrel
    by_cases hlt : k < n
    · have hlt' : (k : Int) < (n : Int) := by omega
      obtain ⟨x, hx, hx1, hx2, hx3⟩ := HN.out k hlt
      obtain ⟨fg, fo, fc, hrm0⟩ := HREC.out k x hx
      have hrm := hrm0.below HB.out
      have q0 := hrm.lo
      have q1 := hrm.hi
      have q2 := hrm.fv
      have HK := HTK.out k x hx
      have hfl := HFL.out k
      obtain ⟨ya, yc, rfl⟩ := own_slice HO.out
      obtain ⟨lo, hi', fs⟩ := x
      simp only at q0 q1 q2 hx1 hx2 hx3 HK
      subst hx1
      have HKK : Hid (candL.take (k + 1) = candL.take k ++ [lo]) := HK
      have hsz : w.heap.size ≤ wr.heap.size := HB.out.size
      clear hrm hrm0 hx HK
      generalize hTL : ((candL.take k).filter (fun r => decide (¬ 1 < (fullL r).length))).length = tl at *
      generalize fs.length = n3 at *
      obtain ⟨WR, hWR⟩ : ∃ WR, WR = wr.alloc (.cells #[.int .i64 lo, .int .i64 lo, .slice (some ⟨fg, fo, none⟩) n3 fc] 69) := ⟨_, rfl⟩
      have bA : Below wr.heap.size wr WR := by rw [hWR]; exact (Below.refl _ wr).alloc (Nat.le_refl _) _
      have nbA : WR.heap[wr.heap.size]? = some (.cells #[.int .i64 lo, .int .i64 lo, .slice (some ⟨fg, fo, none⟩) n3 fc] 69 (0, 0)) := by rw [hWR]; exact World.alloc_heap_new _ _
      have C := rfull_any u lo WR (HT.out.below (HB.out.trans (bA.mono hsz)))
      rw [hWR] at C
      have wlo : IntKind.i64.wrap (lo + 1) = lo + 1 := by rw [IntKind.wrap_i64]; omega
      have hle : lo ≤ lo := Int.le_refl _
      go_wp2
      refine wp_loop_rounds 2 ?_
      rw [rounds_succ]
      go_wp2_with fail
      refine C.mono ?_
      rintro e w3 ⟨v3, rfl, hv3, b3⟩
      rw [← hWR] at hv3 b3
      obtain ⟨za, zc, hz⟩ := own_slice hv3
      subst hz
      have HB3 : Hid (Below wr.heap.size wr w3) := bA.trans (b3.mono bA.size)
      have nb3 : w3.heap[wr.heap.size]? = some (.cells #[.int .i64 lo, .int .i64 lo, .slice (some ⟨fg, fo, none⟩) n3 fc] 69 (0, 0)) := (b3.block _ (Array.getElem?_eq_some_iff.1 nbA).1).trans nbA
      have HO3 : Hid (w3.ownsRow w.heap.size 3 1 (.slice ya tl yc) tl (((candL.take k).filter (fun r => decide (¬ 1 < (fullL r).length))).map (Value.int .i64))) := by
        have := own_below HO.out HB3.out
        rw [hTL] at this
        exact this
      have hneq : (Value.slice ya tl yc).ownBlock ≠ some wr.heap.size := fun e => by have := (HO.out.lt _ e).2; omega
      have HNE : Hid ((Value.slice ya tl yc).ownBlock ≠ some wr.heap.size) := hneq
      have HN3 : Hid (w3.heap[wr.heap.size]? = some (.cells #[.int .i64 lo, .int .i64 lo, .slice (some ⟨fg, fo, none⟩) n3 fc] 69 (0, 0))) := nb3
      have hnlt : ¬ lo + 1 ≤ lo := by omega
      have hsz3 : w.heap.size ≤ w3.heap.size := by have := HB3.out.size; omega
      clear C hv3 b3 hWR bA nbA hneq nb3
      by_cases hq : ¬ 1 < (fullL lo).length
      · have HFT : Hid ((candL.take (k + 1)).filter (fun r => decide (¬ 1 < (fullL r).length)) = (candL.take k).filter (fun r => decide (¬ 1 < (fullL r).length)) ++ [lo]) := by
          show _ = _
          rw [HKK.out, List.filter_append, List.filter_cons_of_pos (by simpa using hq)]
          rfl
        have hq2 : ¬ ((fullL lo).length : Int) > 1 := by have h9 := hq; omega
        clear hq
        generalize hFN : (fullL lo).length = fn at *
        have hq3 : decide ((fn : Int) > 1) = false := decide_eq_false (by omega)
        have hq4 : decide ((1 : Int) < (fn : Int)) = false := decide_eq_false (by omega)
        go_wp2_with (at_builtin; refine wpList_append_own _ rfl _ _ 22 rfl w.heap.size 3 i0 (.int .i64 0) 1 8 Tryz.underlying22 hi hz0 hy1 hz2 rfl (by decide) _ _ _ rfl (HO3.out.alloc _) ⟨w3.heap.size, 0, none⟩ 1 1 [.int .i64 lo] rfl rfl (cell_one_new _ _ _) ?c2 ?c3 ?c4 ?c5 ?_)
        case c2 => first | (intro u hu; simp at hu; subst hu; rfl) | simp [Value.oneCell']
        case c3 => unfold maxLen; omega
        case c4 => omega
        case c5 => first | omega | (simp; omega)
        intro v' w5 hown5 hgrow _
        have R2 : Hid (Below w.heap.size w w5) := Below.grown ((HB.out.trans (HB3.out.mono hsz)).alloc hsz3 _) hgrow (by simp; omega) (fun k e => (HO3.out.lt k e).1)
        have R1 : Hid (IOwn w5 w.heap.size v' ((candL.take (k + 1)).filter (fun r => decide (¬ 1 < (fullL r).length)))) := by
          show IOwn _ _ _ _
          unfold IOwn
          rw [HFT.out, List.length_append, List.length_singleton, List.map_append, hTL]
          simpa using hown5
        have hrc : w5.heap[wr.heap.size]? = some (.cells #[.int .i64 lo, .int .i64 lo, .slice (some ⟨fg, fo, none⟩) n3 fc] 69 (0, 0)) :=
          (hgrow.block _ (by simp; have := (Array.getElem?_eq_some_iff.1 HN3.out).1; omega) (fun e => HNE.out e.symm)).trans ((Below.heap_alloc _ _ _ (Array.getElem?_eq_some_iff.1 HN3.out).1).trans HN3.out)
        have c4 := cell_of_row w5 wr.heap.size 1 _ _ _ hrc
        simp at c4
        obtain ⟨xa', xc', rfl⟩ := own_slice hown5
        clear hown5 hgrow HO3 HO HB hrc
        go_wp2
        rw [rounds_succ]
        go_wp2
        go_roundw
        case rel => exact ⟨k + 1, by omega, by go_num, R1, R2⟩
        case measure => simp [RowKit.intOf]; omega
      · have HFT : Hid ((candL.take (k + 1)).filter (fun r => decide (¬ 1 < (fullL r).length)) = (candL.take k).filter (fun r => decide (¬ 1 < (fullL r).length))) := by
          show _ = _
          rw [HKK.out, List.filter_append, List.filter_cons_of_neg (by simpa using hq)]
          simp
        have hq2 : ((fullL lo).length : Int) > 1 := by have h9 := hq; omega
        clear hq
        generalize hFN : (fullL lo).length = fn at *
        have hq3 : decide ((fn : Int) > 1) = true := decide_eq_true (by omega)
        have hq4 : decide ((1 : Int) < (fn : Int)) = true := decide_eq_true (by omega)
        have c4 := cell_of_row w3 wr.heap.size 1 _ _ _ HN3.out
        simp at c4
        have R2 : Hid (Below w.heap.size w w3) := HB.out.trans (HB3.out.mono hsz)
        have R1 : Hid (IOwn w3 w.heap.size (.slice ya tl yc) ((candL.take (k + 1)).filter (fun r => decide (¬ 1 < (fullL r).length)))) := by
          show IOwn _ _ _ _
          unfold IOwn
          rw [HFT.out, hTL]
          exact HO3.out
        clear HO3 HO HB
        go_wp2
        rw [rounds_succ]
        go_wp2
        go_roundw
        case rel => exact ⟨k + 1, by omega, by go_num, R1, R2⟩
        case measure => simp [RowKit.intOf]; omega
    · obtain rfl : k = n := by omega
      have hlt' : ¬ (k : Int) < (k : Int) := by omega
      obtain ⟨ya, yc, rfl⟩ := own_slice HO.out
      have R1 : Hid (IOwn wr w.heap.size (.slice ya ((candL.take k).filter (fun r => decide (¬ 1 < (fullL r).length))).length yc) (candL.filter (fun r => decide (¬ 1 < (fullL r).length)))) := by
        have h1 := HO.out
        rw [HALL.out] at h1 ⊢
        exact h1
      clear HO
      generalize ((candL.take k).filter (fun r => decide (¬ 1 < (fullL r).length))).length = tl at *
      go_wp2
      go_ret
      exact ⟨_, rfl, R1.out, HB.out⟩
set_option maxRecDepth 1000000 in
theorem rsins_any (u : Nat) (w : World) (h : RTabs w u) : Calls Tryz.prog 18 #[.pointer (some ⟨u, 0, none⟩)] w fun e w' => ∃ v, e = .returned v ∧ IOwn w' w.heap.size v sinL ∧ Below w.heap.size w w' := by
  have C := rsome_sin u w h
  rw [show candL.filter (fun r => decide (¬ 1 < (fullL r).length)) = sinL from sin_neg] at C
  clear h
  generalize sinL = L at *
  go_enter Tryz.func18, Tryz.ntmps18
  go_wp2_with fail
  refine C.mono ?_
  rintro e w1 ⟨v, rfl, hv, hb⟩
  obtain ⟨va, vc, rfl⟩ := own_slice hv
  have H : Hid (IOwn w1 w.heap.size (.slice va L.length vc) L ∧ Below w.heap.size w w1) := ⟨hv, hb⟩
  clear C hv hb
  generalize L.length = n at *
  go_wp2
  go_ret
  exact ⟨_, rfl, H.out⟩
end Go.Proofs.YtfknljjbdofjjaaGreatDoor.dcp
end

section
/- DecompMembers: the walk. -/
set_option linter.unusedVariables false
set_option linter.unusedSimpArgs false
namespace Go.Proofs.YtfknljjbdofjjaaGreatDoor.dcp
open Go.RowKit Go.Maps lin prp

theorem pick_at (at_ : Int) (n : Nat) (h0 : 0 < n) (hn : n ≤ 1000) : ∃ i : Nat, i < n ∧ Int.tmod (IntKind.u64.wrap at_) (n : Int) = (i : Int) := by
  have hq : 0 ≤ IntKind.u64.wrap at_ := by rw [IntKind.wrap_u64]; omega
  rw [Int.tmod_eq_emod_of_nonneg hq]
  generalize IntKind.u64.wrap at_ = q at *
  have h1 := Int.emod_nonneg q (show (n : Int) ≠ 0 by omega)
  have h2 := Int.emod_lt_of_pos q (show (0 : Int) < (n : Int) by omega)
  exact ⟨(q % (n : Int)).toNat, by omega, by omega⟩
theorem iv_at {w : World} {a : Option Addr} {n c : Nat} {xs : List Int} (h : IV w (.slice a n c) xs) (h0 : 0 < xs.length) : ∃ b o, a = some ⟨b, o, none⟩ ∧ ∀ j, j < xs.length → w.cell? ⟨b, o + j, none⟩ = some (.int .i64 (xs.getD j 0)) := by
  obtain ⟨a', c', e, k⟩ := h
  obtain ⟨b, o, rfl, hc⟩ := k h0
  cases e
  exact ⟨b, o, rfl, hc⟩
set_option maxHeartbeats 4000000 in
set_option maxRecDepth 1000000 in
theorem members_walk (r : Int) (w : World) (E : Env w) : Calls Tryz.prog 4 #[.int .i64 r] w fun e w' => e = .returned (.bool true) ∧ Below w.heap.size w w' := by
  have HE : Hid (Env w) := E
  have C := load_any w E
  obtain ⟨f1, f2, f3⟩ := mem_facts
  obtain ⟨g1, g2, g3⟩ := sin_facts
  have HM : Hid (∀ k, k < memL.length → ∃ a, memL.getD k 0 = a ∧ 1 < (fullL a).length ∧ okI a) := fun k hk => by
    have := f3 _ (List.getElem_mem hk)
    exact ⟨memL[k], by rw [List.getD_eq_getElem?_getD, List.getElem?_eq_getElem hk]; rfl, this.1, by unfold okI; omega⟩
  have HS : Hid (∀ k, k < sinL.length → ∃ a, sinL.getD k 0 = a ∧ okI a ∧ ∃ b, fullL a = [b] ∧ b ≠ a) := fun k hk => by
    obtain ⟨h1, h2, h3⟩ := g3 _ (List.getElem_mem hk)
    refine ⟨sinL[k], by rw [List.getD_eq_getElem?_getD, List.getElem?_eq_getElem hk]; rfl, by unfold okI; omega, ?_⟩
    obtain ⟨b, hb⟩ := List.length_eq_one_iff.1 h1
    rw [hb] at h2
    exact ⟨b, hb, by simpa using h2⟩
  obtain ⟨i1, hi1, ht1⟩ := pick_at r memL.length f1 f2
  obtain ⟨i2, hi2, ht2⟩ := pick_at r sinL.length g1 g2
  clear E f3 g3
  go_enter Tryz.func4, Tryz.ntmps4
  go_wp2_with fail
  refine C.mono ?_
  rintro e w1 ⟨t, rfl, ht, b1⟩
  clear C
  have C := rload_any w1
  have HT1 : Hid (Tabs w1 t) := ht
  have HB1 : Hid (Below w.heap.size w w1) := b1
  clear ht b1
  go_wp2_with fail
  refine C.mono ?_
  rintro e w2 ⟨u, rfl, hu, b2⟩
  clear C
  have HU2 : Hid (RTabs w2 u) := hu
  have HT2 : Hid (Tabs w2 t) := HT1.out.below b2
  have HB2 : Hid (Below w.heap.size w w2) := HB1.out.trans (b2.mono HB1.out.size)
  clear hu b2 HT1 HB1
  have C := mems_any t w2 HT2.out (HE.out.below HB2.out)
  obtain ⟨M, hM⟩ : ∃ M, memL = M := ⟨_, rfl⟩
  obtain ⟨S, hS⟩ : ∃ S, sinL = S := ⟨_, rfl⟩
  have HRM : Hid (∀ W, RTabs W u → Calls Tryz.prog 17 #[.pointer (some ⟨u, 0, none⟩)] W fun e w' => ∃ v, e = .returned v ∧ IOwn w' W.heap.size v M ∧ Below W.heap.size W w') := fun W h => by rw [← hM]; exact rmems_any u W h
  have HRS : Hid (∀ W, RTabs W u → Calls Tryz.prog 18 #[.pointer (some ⟨u, 0, none⟩)] W fun e w' => ∃ v, e = .returned v ∧ IOwn w' W.heap.size v S ∧ Below W.heap.size W w') := fun W h => by rw [← hS]; exact rsins_any u W h
  have HSS : Hid (∀ W, Tabs W t → Env W → Calls Tryz.prog 16 #[.pointer (some ⟨t, 0, none⟩)] W fun e w' => ∃ v, e = .returned v ∧ IOwn w' W.heap.size v S ∧ Below W.heap.size W w') := fun W h E => by rw [← hS]; exact sins_any t W h E
  rw [hM] at C HM f1 f2 hi1 ht1
  rw [hS] at HS g1 g2 hi2 ht2
  clear hM hS
  go_wp2_with fail
  refine C.mono ?_
  rintro e w3 ⟨v3, rfl, ho3, b3⟩
  clear C
  have HV3 : Hid (IV w3 v3 M) := ho3.iv
  obtain ⟨ma, mc, rfl, _⟩ := ho3.iv
  have HT3 : Hid (Tabs w3 t) := HT2.out.below b3
  have HU3 : Hid (RTabs w3 u) := HU2.out.below b3
  have HB3 : Hid (Below w.heap.size w w3) := HB2.out.trans (b3.mono HB2.out.size)
  clear ho3 b3 HT2 HU2 HB2
  have C := HSS.out w3 HT3.out (HE.out.below HB3.out)
  go_wp2_with fail
  refine C.mono ?_
  rintro e w4 ⟨v4, rfl, ho4, b4⟩
  clear C
  have HV4 : Hid (IV w4 v4 S) := ho4.iv
  have HT4 : Hid (Tabs w4 t) := HT3.out.below b4
  have HU4 : Hid (RTabs w4 u) := HU3.out.below b4
  have HM4 : Hid (IV w4 (.slice ma M.length mc) M) := HV3.out.below b4
  have HB4 : Hid (Below w.heap.size w w4) := HB3.out.trans (b4.mono HB3.out.size)
  obtain ⟨sa, sc, rfl, k2⟩ := ho4.iv
  obtain ⟨sb, so, rfl, c2⟩ := k2 (by omega)
  obtain ⟨mb, mo, rfl, c1⟩ := iv_at HM4.out (by omega)
  clear ho4 b4 HT3 HU3 HB3 HV3 k2
  obtain ⟨xa, hxa, hxa1, hxa2⟩ := HM.out i1 hi1
  obtain ⟨xb, hxb, hxb1, yb, hxb2, hxb3⟩ := HS.out i2 hi2
  have d1 := c1 i1 hi1
  have d2 := c2 i2 hi2
  rw [hxa] at d1
  rw [hxb] at d2
  clear c1 c2 hxa hxb HM HS
  have HF : Hid (∀ W, Tabs W t → Calls Tryz.prog 12 #[.pointer (some ⟨t, 0, none⟩), .int .i64 xa] W fun e w' => ∃ v n, e = .returned v ∧ 1 < n ∧ (∃ a c, v = .slice a n c) ∧ Below W.heap.size W w') := fun W h => (full_t t xa W h hxa2).mono fun e w' ⟨v, h1, h2, h3⟩ => ⟨v, _, h1, hxa1, own_slice h2, h3⟩
  have HG : Hid (∀ W, Tabs W t → Calls Tryz.prog 12 #[.pointer (some ⟨t, 0, none⟩), .int .i64 xb] W fun e w' => ∃ b o c, e = .returned (.slice (some ⟨b, o, none⟩) 1 c) ∧ w'.cell? ⟨b, o, none⟩ = some (.int .i64 yb) ∧ Below W.heap.size W w') := fun W h => (full_t t xb W h hxb1).mono fun e w' ⟨v, h1, h2, h3⟩ => by
    obtain ⟨a, c, e1, h4⟩ := h2.iv
    obtain ⟨b, o, e2, h5⟩ := h4 (by rw [hxb2]; simp)
    rw [hxb2] at e1 h5
    have := h5 0 (by simp)
    exact ⟨b, o, c, by rw [h1, e1, e2]; rfl, this, h3⟩
  have HME : Hid (∀ W v, Below w4.heap.size w4 W → IV W v M → Calls Tryz.prog 11 #[.slice (some ⟨mb, mo, none⟩) M.length mc, v] W fun e w' => e = .returned (.bool true) ∧ Below W.heap.size W w') := fun W v hb hv => iequal_any _ _ M W (HM4.out.below hb) hv (by omega)
  have HSE : Hid (∀ W v, Below w4.heap.size w4 W → IV W v S → Calls Tryz.prog 11 #[.slice (some ⟨sb, so, none⟩) S.length sc, v] W fun e w' => e = .returned (.bool true) ∧ Below W.heap.size W w') := fun W v hb hv => iequal_any _ _ S W (HV4.out.below hb) hv (by omega)
  have HML : Hid (∀ W v, IOwn W w4.heap.size v M → ∃ a c, v = .slice a M.length c) := fun W v h => own_slice h
  generalize hn1 : M.length = n1 at *
  generalize hn2 : S.length = n2 at *
  have hyx : (yb != xb) = true := by simp; exact hxb3
  clear HM4 HV4 hxa1 hxa2 hxb1 hxb2 hxb3
  have z1 : ((n1 : Int) == 0) = false := beq_eq_false_iff_ne.2 (by omega)
  have z2 : ((n2 : Int) == 0) = false := beq_eq_false_iff_ne.2 (by omega)
  have u1 : IntKind.u64.wrap (n1 : Int) = (n1 : Int) := by rw [IntKind.wrap_u64]; omega
  have u2 : IntKind.u64.wrap (n2 : Int) = (n2 : Int) := by rw [IntKind.wrap_u64]; omega
  have v1 : IntKind.i64.wrap (i1 : Int) = (i1 : Int) := by rw [IntKind.wrap_i64]; omega
  have v2 : IntKind.i64.wrap (i2 : Int) = (i2 : Int) := by rw [IntKind.wrap_i64]; omega
  have l1 : (i1 : Int) < (n1 : Int) := by omega
  have l2 : (i2 : Int) < (n2 : Int) := by omega
  have p1 : (0 : Int) ≤ (i1 : Int) := by omega
  have p2 : (0 : Int) ≤ (i2 : Int) := by omega
  have nz1 : ¬ (n1 : Int) = 0 := by omega
  have nz2 : ¬ (n2 : Int) = 0 := by omega
  have HN1 : Hid (M.length = n1) := hn1
  have HN2 : Hid (S.length = n2) := hn2
  clear hn1 hn2
  go_wp2
  go_quiet (fail)
  have HBq : Hid (Below w4.heap.size w4 (w4.drewN nq)) := Go.Proofs.YtfknljjbdofjjaaGreatDoor.rng.below_drewN (Below.refl _ w4) _
  generalize w4.drewN nq = w5 at HBq ⊢
  have C := HRM.out w5 (HU4.out.below HBq.out)
  go_wp2_with fail
  refine C.mono ?_
  rintro e w6 ⟨v6, rfl, ho6, b6⟩
  clear C
  have HB6 : Hid (Below w4.heap.size w4 w6) := HBq.out.trans (b6.mono HBq.out.size)
  have C := HME.out w6 v6 HB6.out ho6.iv
  obtain ⟨a6, c6, hv6⟩ := own_slice ho6
  rw [HN1.out] at hv6
  subst hv6
  clear ho6 b6
  go_wp2_with fail
  refine C.mono ?_
  rintro e w7 ⟨rfl, b7⟩
  clear C
  have HB7 : Hid (Below w4.heap.size w4 w7) := HB6.out.trans (b7.mono HB6.out.size)
  have C := HRS.out w7 (HU4.out.below HB7.out)
  clear b7 HB6
  go_wp2_with fail
  refine C.mono ?_
  rintro e w8 ⟨v8, rfl, ho8, b8⟩
  clear C
  have HB8 : Hid (Below w4.heap.size w4 w8) := HB7.out.trans (b8.mono HB7.out.size)
  have C := HSE.out w8 v8 HB8.out ho8.iv
  obtain ⟨a8, c8, hv8⟩ := own_slice ho8
  rw [HN2.out] at hv8
  subst hv8
  clear ho8 b8 HB7
  go_wp2_with fail
  refine C.mono ?_
  rintro e w9 ⟨rfl, b9⟩
  clear C
  have HB9 : Hid (Below w4.heap.size w4 w9) := HB8.out.trans (b9.mono HB8.out.size)
  have C := HF.out w9 (HT4.out.below HB9.out)
  clear b9 HB8
  go_wp2_with fail
  refine C.mono ?_
  rintro e w10 ⟨v10, n10, rfl, hn10, ⟨a10, c10, rfl⟩, b10⟩
  clear C
  have HB10 : Hid (Below w4.heap.size w4 w10) := HB9.out.trans (b10.mono HB9.out.size)
  have C := HG.out w10 (HT4.out.below HB10.out)
  have hz10 : (n10 : Int) > 1 := by omega
  have hz10' : (1 : Int) < (n10 : Int) := by omega
  clear b10 HB9
  go_wp2_with fail
  refine C.mono ?_
  rintro e w11 ⟨b11, o11, c11, rfl, hc11, bb11⟩
  clear C
  have HB11 : Hid (Below w4.heap.size w4 w11) := HB10.out.trans (bb11.mono HB10.out.size)
  have C := HG.out w11 (HT4.out.below HB11.out)
  clear bb11 HB10 hc11
  go_wp2_with fail
  refine C.mono ?_
  rintro e w12 ⟨b12, o12, c12, rfl, hc12, bb12⟩
  clear C
  have R : Hid (Below w.heap.size w w12) := HB4.out.trans ((HB11.out.trans (bb12.mono HB11.out.size)).mono HB4.out.size)
  clear bb12
  go_wp2
  go_ret
  exact ⟨rfl, R.out⟩
end Go.Proofs.YtfknljjbdofjjaaGreatDoor.dcp
end

section
/- DecompNobody: the walk. -/
set_option linter.unusedVariables false
set_option linter.unusedSimpArgs false
namespace Go.Proofs.YtfknljjbdofjjaaGreatDoor.dcp
open Go.RowKit Go.Maps lin prp

set_option maxHeartbeats 4000000 in
set_option maxRecDepth 1000000 in
theorem nobody_walk (r : Int) (w : World) (E : Env w) : Calls Tryz.prog 7 #[.int .i64 r] w fun e w' => e = .returned (.bool true) ∧ Below w.heap.size w w' := by
  have HE : Hid (Env w) := E
  clear E
  go_enter Tryz.func7, Tryz.ntmps7
  go_wp2
  have HB : Hid (Below w.heap.size w ((w.alloc (.cells #[.pointer none, .slice none 0 0, .pointer none, .slice none 0 0, .pointer none, .slice none 0 0, .pointer none, .slice none 0 0, .pointer none, .slice none 0 0, .map none, .map none, .map none, .map none] 46)).alloc (.cells #[.pointer none, .pointer (some ⟨w.heap.size, 0, none⟩)] 23))) := ((Below.refl _ w).alloc (Nat.le_refl _) _).alloc (by simp) _
  have nb0 : ((w.alloc (.cells #[.pointer none, .slice none 0 0, .pointer none, .slice none 0 0, .pointer none, .slice none 0 0, .pointer none, .slice none 0 0, .pointer none, .slice none 0 0, .map none, .map none, .map none, .map none] 46)).alloc (.cells #[.pointer none, .pointer (some ⟨w.heap.size, 0, none⟩)] 23)).heap[w.heap.size]? = some (.cells #[.pointer none, .slice none 0 0, .pointer none, .slice none 0 0, .pointer none, .slice none 0 0, .pointer none, .slice none 0 0, .pointer none, .slice none 0 0, .map none, .map none, .map none, .map none] 46 (0, 0)) := by
    rw [Below.heap_alloc _ _ _ (by simp)]; exact World.alloc_heap_new _ _
  have nb1 : ((w.alloc (.cells #[.pointer none, .slice none 0 0, .pointer none, .slice none 0 0, .pointer none, .slice none 0 0, .pointer none, .slice none 0 0, .pointer none, .slice none 0 0, .map none, .map none, .map none, .map none] 46)).alloc (.cells #[.pointer none, .pointer (some ⟨w.heap.size, 0, none⟩)] 23)).heap[w.heap.size + 1]? = some (.cells #[.pointer none, .pointer (some ⟨w.heap.size, 0, none⟩)] 23 (0, 0)) := heap_alloc2_new _ _ _
  generalize (w.alloc (.cells #[.pointer none, .slice none 0 0, .pointer none, .slice none 0 0, .pointer none, .slice none 0 0, .pointer none, .slice none 0 0, .pointer none, .slice none 0 0, .map none, .map none, .map none, .map none] 46)).alloc (.cells #[.pointer none, .pointer (some ⟨w.heap.size, 0, none⟩)] 23) = W at *
  have d0 := cell_of_row W (w.heap.size + 1) 0 _ _ _ nb1
  have d1 := cell_of_row W (w.heap.size + 1) 1 _ _ _ nb1
  have d2 := cell_of_row W w.heap.size 0 _ _ _ nb0
  simp at d0 d1 d2
  have U1 : Hid (∀ V, Below W.heap.size W V → Unmade V (.pointer none)) := fun V _ => .inl rfl
  have U2 : Hid (∀ V, Below W.heap.size W V → Unmade V (.pointer (some ⟨w.heap.size, 0, none⟩))) := fun V hV => .inr ⟨_, rfl, cell_below hV d2⟩
  have HD1 : Hid (∀ V, Below W.heap.size W V → V.cell? ⟨w.heap.size + 1, 1, none⟩ = some (.pointer (some ⟨w.heap.size, 0, none⟩))) := fun V hV => cell_below hV d1
  have HEV : Hid (∀ V, Below W.heap.size W V → Env V) := fun V hV => HE.out.below (HB.out.trans (hV.mono HB.out.size))
  clear nb0 nb1 d2 d1
  refine wp_loop_rounds 3 ?_
  rw [rounds_succ]
  have C := full_no (.pointer none) r W (U1.out W (Below.refl _ _))
  go_wp2_with fail
  refine C.mono ?_
  rintro e w1 ⟨rfl, hw⟩
  rw [hw]
  clear C hw w1
  have C := mems_no (.pointer none) W (U1.out W (Below.refl _ _)) (HEV.out W (Below.refl _ _))
  go_wp2_with fail
  refine C.mono ?_
  rintro e w1 ⟨rfl, b1⟩
  clear C
  have C := sins_no (.pointer none) w1 (U1.out w1 b1) (HEV.out w1 b1)
  have HB1 : Hid (Below W.heap.size W w1) := b1
  clear b1
  go_wp2_with fail
  refine C.mono ?_
  rintro e w2 ⟨rfl, b2⟩
  clear C
  have HB2 : Hid (Below W.heap.size W w2) := HB1.out.trans (b2.mono HB1.out.size)
  clear b2 HB1
  have dd := HD1.out w2 HB2.out
  go_wp2
  rw [rounds_succ]
  have C := full_no (.pointer (some ⟨w.heap.size, 0, none⟩)) r w2 (U2.out w2 HB2.out)
  go_wp2_with fail
  refine C.mono ?_
  rintro e w3 ⟨rfl, hw⟩
  rw [hw]
  clear C hw w3
  have C := mems_no (.pointer (some ⟨w.heap.size, 0, none⟩)) w2 (U2.out w2 HB2.out) (HEV.out w2 HB2.out)
  go_wp2_with fail
  refine C.mono ?_
  rintro e w3 ⟨rfl, b3⟩
  clear C
  have HB3 : Hid (Below W.heap.size W w3) := HB2.out.trans (b3.mono HB2.out.size)
  have C := sins_no (.pointer (some ⟨w.heap.size, 0, none⟩)) w3 (U2.out w3 HB3.out) (HEV.out w3 HB3.out)
  clear b3
  go_wp2_with fail
  refine C.mono ?_
  rintro e w4 ⟨rfl, b4⟩
  clear C
  have HB4 : Hid (Below W.heap.size W w4) := HB3.out.trans (b4.mono HB3.out.size)
  have C := awake_any w4 (HEV.out w4 HB4.out)
  clear b4
  go_wp2
  rw [rounds_succ]
  go_wp2_with fail
  refine C.mono ?_
  rintro e w5 ⟨rfl, b5⟩
  clear C
  have R : Hid (Below w.heap.size w w5) := HB.out.trans ((HB4.out.trans (b5.mono HB4.out.size)).mono HB.out.size)
  clear b5
  go_wp2
  go_ret
  exact ⟨rfl, R.out⟩
end Go.Proofs.YtfknljjbdofjjaaGreatDoor.dcp
end
