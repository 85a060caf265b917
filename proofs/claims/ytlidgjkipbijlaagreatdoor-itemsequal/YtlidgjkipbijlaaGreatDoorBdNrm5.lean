/- Texts that the proof leans on, one behind the other. -/
import Derived.Test.YtlidgjkipbijlaaGreatDoorBdNrm4
import Derived.Deep.QuietTactic
import Derived.BigQuiet

section
/- The document's NFD of numbers, and whether they are so; NormRunes: the walk. -/
set_option linter.unusedVariables false
set_option linter.unusedSimpArgs false
namespace Go.Proofs.YtlidgjkipbijlaaGreatDoor.nrm
open Go.Shelf Go.RowKit Go.Lib Go.Sort Go.Proofs
open Go.Proofs.YtlidgjkipbijlaaGreatDoor.prp Go.Proofs.YtlidgjkipbijlaaGreatDoor.nfd Go.Proofs.YtlidgjkipbijlaaGreatDoor.lin Go.Proofs.YtlidgjkipbijlaaGreatDoor.dcp

set_option maxHeartbeats 4000000 in
set_option maxRecDepth 1000000 in
theorem rrunes_any (u : Nat) (v : Value) (l : List Int) (w : World) (hT : RTabs w u) (hv : IV w v l) (hl : l.length ≤ 1000) :
    Calls Tryz.prog 28 #[.pointer (some ⟨u, 0, none⟩), v] w fun e w' => ∃ v, e = .returned v ∧ IOwn w' w.heap.size v (nfdR l) ∧ Below w.heap.size w w' := by
  obtain ⟨i0, hi, hz0, hz1, hz2⟩ := rng.info_parts infoItem
  obtain ⟨j0, ji, jz0, jz1, jz2⟩ := rng.info_parts infoInt
  obtain ⟨ao, cap, rfl, hcells⟩ := hv
  have HT : Hid (RTabs w u) := hT
  obtain ⟨n, hn⟩ : ∃ n, l.length = n := ⟨_, rfl⟩
  have HC : Hid (∀ (k : Nat), k < n → ∃ r b o, ao = some ⟨b, o, none⟩ ∧ w.cell? ⟨b, o + k, none⟩ = some (.int .i64 r) ∧ l.take (k + 1) = l.take k ++ [r]) := fun k hk => by
    obtain ⟨b, o, e, hc⟩ := hcells (by omega)
    exact ⟨l[k], b, o, e, by rw [hc k (by omega), List.getD_eq_getElem?_getD, List.getElem?_eq_getElem (by omega)]; rfl, List.take_succ_eq_append_getElem (by omega)⟩
  have HI : Hid (∀ (W : World) (v : Value), RTabs W u → IVI W v (l.map p0) → Calls Tryz.prog 47 #[.pointer (some ⟨u, 0, none⟩), v] W fun e w' => ∃ v, e = .returned v ∧ Own3 w' W.heap.size v (nfdI (l.map p0)) ∧ Below W.heap.size W w') := fun W v h1 h2 => ritems_any u v (l.map p0) W h1 h2 (by rw [List.length_map]; exact hl)
  have HR : Hid ((nfdI (l.map p0)).map (·.1) = nfdR l) := nfdR_items l
  have hnl : (nfdI (l.map p0)).length ≤ 900000 := by have := nfdI_len (l.map p0); rw [List.length_map] at this; omega
  have HLT : Hid (l.take n = l) := by rw [← hn]; exact List.take_length
  have HLL : Hid (l.length = n) := hn
  rw [hn] at hl ⊢
  rw [← HR.out]
  clear hcells hT hn
  go_enter Tryz.func28, Tryz.ntmps28
  go_wp2
  go_loopw [5, 13] (fun v i wr => ∃ k : Nat, k ≤ n ∧ i = .int .i64 k ∧ Hid (Own3 wr w.heap.size v ((l.take k).map p0)) ∧ Hid (Below w.heap.size w wr)) (fun _ i _ => n - (RowKit.intOf i).toNat)
  case atStart => exact ⟨0, Nat.zero_le _, rfl, Own3.nil _ _, Below.refl _ _⟩
  case round =>
    obtain ⟨k, hk, rfl, HP, HB⟩ := hrel
    have hkl : ((l.take k).map p0).length = k := by rw [List.length_map, List.length_take, HLL.out]; omega
    obtain ⟨pa, pc, hp⟩ := own_slice HP.out
    rw [hkl] at hp
    subst hp
    by_cases hlt : k < n
    · have hlt' : (k : Int) < (n : Int) := by omega
      obtain ⟨r, b, o, rfl, hc, htk⟩ := HC.out k hlt
      have hc1 := cell_below HB.out hc
      have hsz := HB.out.size
      have HTK : Hid ((l.take (k + 1)).map p0 = (l.take k).map p0 ++ [(r, 0, 0)]) := by show _ = _; rw [htk, List.map_append]; rfl
      have HO4 : Hid (wr.ownsRow w.heap.size 30 3 (.slice pa k pc) k (fl ((l.take k).map p0))) := by have h9 := HP.out; unfold Own3 at h9; rw [hkl] at h9; exact h9
      have HKL : Hid (((l.take k).map p0).length = k) := hkl
      clear htk hc HP hkl
      go_wp2_with (at_builtin; refine wpList_append_own _ rfl _ _ 28 rfl w.heap.size 30 i0 (.agg #[.int .i64 0, .int .i64 0, .int .i64 0]) 3 24 Tryz.underlying28 hi hz0 hz1 hz2 rfl (by decide) _ _ _ rfl (HO4.out.alloc _) ⟨wr.heap.size, 0, none⟩ 1 1 [.int .i64 r, .int .i64 0, .int .i64 0] rfl rfl (one3_new _ _ _ _ _) ?c2 ?c3 ?c4 ?c5 ?_)
      case c2 => first | (intro u hu; simp at hu; rcases hu with rfl | rfl | rfl <;> rfl) | (refine ⟨?_, ?_, ?_⟩ <;> rfl) | (intro u hu; simp at hu; rcases hu with rfl | rfl <;> rfl) | simp [Value.oneCell']
      case c3 => unfold maxLen; omega
      case c4 => omega
      case c5 => first | omega | (simp; omega)
      intro v5 w5 hown5 hgrow5 _
      have R4 : Hid (Below w.heap.size w w5) := Below.grown (HB.out.alloc hsz _) hgrow5 (by simp; omega) (fun k' e => (HO4.out.lt k' e).1)
      have R1 : Hid (Own3 w5 w.heap.size v5 ((l.take (k + 1)).map p0)) := by
        show Own3 _ _ _ _
        unfold Own3
        rw [HTK.out, fl_append, fl_three, List.length_append, HKL.out, List.map_take]
        exact hown5
      clear hown5 hgrow5 HO4 HB
      go_wp2
      go_roundw
      case rel => exact ⟨k + 1, by omega, by go_num, R1, R4⟩
      case measure => simp [RowKit.intOf]; omega
    · obtain rfl : k = n := by omega
      have hlt' : ¬ (k : Int) < (k : Int) := by omega
      have hiv := HP.out.iv
      rw [HLT.out] at hiv
      clear hkl
      have C := HI.out wr _ (HT.out.below HB.out) hiv
      have HBW : Hid (Below w.heap.size w wr) := HB.out
      clear HP hiv HB HI
      obtain ⟨NF, hNF⟩ : ∃ NF, nfdI (l.map p0) = NF := ⟨_, rfl⟩
      have HNF : Hid (nfdI (l.map p0) = NF) := hNF
      rw [hNF] at C hnl
      clear hNF
      go_wp2_with fail
      refine C.mono ?_
      rintro e w3 ⟨v3, rfl, ho3, b3⟩
      clear C
      obtain ⟨va, vc, rfl, hcl⟩ := ho3.iv
      obtain ⟨m, hm⟩ : ∃ m, NF.length = m := ⟨_, rfl⟩
      have HC3 : Hid (∀ (j : Nat), j < m → ∃ r s e b o, va = some ⟨b, o, none⟩ ∧ w3.cell? ⟨b, o + j * 3, none⟩ = some (.int .i64 r) ∧ w3.cell? ⟨b, o + j * 3 + 1, none⟩ = some (.int .i64 s) ∧ w3.cell? ⟨b, o + j * 3 + 2, none⟩ = some (.int .i64 e) ∧ (NF.map (·.1)).take (j + 1) = (NF.map (·.1)).take j ++ [r]) := fun j hj => by
        obtain ⟨b, o, e, hc⟩ := hcl (by omega)
        obtain ⟨x, hx⟩ : ∃ x, NF[j]? = some x := ⟨_, List.getElem?_eq_getElem (by omega)⟩
        obtain ⟨c1, c2, c3⟩ := hc j x hx
        exact ⟨_, _, _, b, o, e, c1, c2, c3, by rw [List.take_add_one, List.getElem?_map, hx]; rfl⟩
      have HB3 : Hid (Below w.heap.size w w3) := HBW.out.trans (b3.mono HBW.out.size)
      have HML : Hid (NF.length = m) := hm
      rw [hm] at hnl ⊢
      have hb3 := HB3.out.size
      clear ho3 b3 hcl hm HBW
      go_wp2
      go_loopw [8, 27] (fun v i wr => ∃ j : Nat, j ≤ m ∧ i = .int .i64 j ∧ Hid (IOwn wr w3.heap.size v ((NF.map (·.1)).take j)) ∧ Hid (Below w3.heap.size w3 wr)) (fun _ i _ => m - (RowKit.intOf i).toNat)
      case atStart => exact ⟨0, Nat.zero_le _, rfl, World.ownsRow_nil _ _ _ _, Below.refl _ _⟩
      case round =>
        obtain ⟨j, hj, rfl, HO, HB⟩ := hrel
        by_cases hlt2 : j < m
        · have hlt2' : (j : Int) < (m : Int) := by omega
          obtain ⟨r, s, e, b, o, rfl, c1, c2, c3, htk⟩ := HC3.out j hlt2
          have d1 := cell_below HB.out c1
          have d2 := cell_below HB.out c2
          have d3 := cell_below HB.out c3
          have HTK : Hid ((NF.map (·.1)).take (j + 1) = (NF.map (·.1)).take j ++ [r]) := htk
          have hsz := HB.out.size
          have hjl : ((NF.map (·.1)).take j).length = j := by rw [List.length_take, List.length_map, HML.out]; omega
          obtain ⟨ya, yc, hy⟩ := own_slice HO.out
          have HO2 : Hid ((wr.alloc (.cells #[.int .i64 r, .int .i64 s, .int .i64 e] 30)).ownsRow w3.heap.size 3 1 (.slice ya j yc) j (((NF.map (·.1)).take j).map (Value.int .i64))) := by
            have := own_below HO.out ((Below.refl _ wr).alloc (Nat.le_refl _) (.cells #[.int .i64 r, .int .i64 s, .int .i64 e] 30))
            rw [hy, hjl] at this
            exact this
          subst hy
          rw [hjl]
          clear c1 c2 c3 htk HO
          go_wp2_with (at_builtin; refine wpList_append_own _ rfl _ _ 35 rfl w3.heap.size 3 j0 (.int .i64 0) 1 8 Tryz.underlying35 ji jz0 jz1 jz2 rfl (by decide) _ _ _ rfl (HO2.out.alloc _) ⟨wr.heap.size + 1, 0, none⟩ 1 1 [.int .i64 r] rfl rfl ?c1 ?c2 ?c3 ?c4 ?c5 ?_)
          try (case c1 => first | exact cell_one_new _ _ _ | (have := cell_one_new (wr.alloc (.cells #[.int .i64 r, .int .i64 s, .int .i64 e] 30)) (.int .i64 r) 3; simpa using this))
          case c2 => first | (intro u hu; simp at hu; subst hu; rfl) | simp [Value.oneCell']
          case c3 => unfold maxLen; omega
          case c4 => omega
          case c5 => first | omega | (simp; omega)
          intro v' w5 hown5 hgrow _
          have R2 : Hid (Below w3.heap.size w3 w5) := Below.grown ((HB.out.alloc hsz _).alloc (by simp; omega) _) hgrow (by simp; omega) (fun k e => (HO2.out.lt k e).1)
          have R1 : Hid (IOwn w5 w3.heap.size v' ((NF.map (·.1)).take (j + 1))) := by
            show IOwn _ _ _ _
            unfold IOwn
            rw [HTK.out, List.length_append, List.length_singleton, List.map_append, hjl]
            simpa using hown5
          clear hown5 hgrow HO2 HB
          go_wp2
          go_roundw
          case rel => exact ⟨j + 1, by omega, by go_num, R1, R2⟩
          case measure => simp [RowKit.intOf]; omega
        · obtain rfl : j = m := by omega
          have hlt2' : ¬ (j : Int) < (j : Int) := by omega
          have hall : (NF.map (·.1)).take j = NF.map (·.1) := List.take_of_length_le (by rw [List.length_map, HML.out]; exact Nat.le_refl _)
          obtain ⟨ya, yc, hy⟩ := own_slice HO.out
          have R1 : Hid (IOwn wr w.heap.size (.slice ya ((NF.map (·.1)).take j).length yc) (NF.map (·.1))) := by
            have h1 := HO.out
            rw [hy] at h1
            rw [hall] at h1 ⊢
            exact own_lower h1 hb3
          have R2 : Hid (Below w.heap.size w wr) := HB3.out.trans (HB.out.mono hb3)
          subst hy
          clear HO hall
          generalize ((NF.map (·.1)).take j).length = tl at *
          go_wp2
          go_ret
          rw [HNF.out]
          exact ⟨_, rfl, R1.out, R2.out⟩
/-- slices.Equal of numbers. -/
theorem ieq_any (v1 v2 : Value) (xs ys : List Int) (w : World) (h1 : IV w v1 xs) (h2 : IV w v2 ys) (hx : xs.length ≤ 1000000) (hy : ys.length ≤ 1000000) :
    Calls Tryz.prog 12 #[v1, v2] w fun e w' => e = .returned (.bool (xs == ys)) ∧ Below w.heap.size w w' := by
  obtain ⟨a1, c1, rfl, k1⟩ := h1
  obtain ⟨a2, c2, rfl, k2⟩ := h2
  rcases Nat.eq_zero_or_pos xs.length with h0 | h0
  · have e0 := List.eq_nil_of_length_eq_zero h0
    subst e0
    refine (Tryz.slices_Equal_int_empty a1 a2 c1 ys.length c2 w (by omega)).mono ?_
    rintro e w' ⟨rfl, hw⟩
    rw [hw]
    refine ⟨?_, Below.refl _ _⟩
    cases ys <;> simp
  · obtain ⟨b1, o1, rfl, d1⟩ := k1 h0
    rcases Nat.eq_zero_or_pos ys.length with g0 | g0
    · have e0 := List.eq_nil_of_length_eq_zero g0
      subst e0
      have hne : ((xs.length : Int) != 0) = true := by simp; intro h; rw [h] at h0; simp at h0
      have hne2 : (xs == ([] : List Int)) = false := by cases xs with
        | nil => simp at h0
        | cons a l => rfl
      rw [hne2]
      generalize xs.length = n at *
      clear k2 d1
      go_enter Tryz.func12, Tryz.ntmps12
      go_wp2
      go_ret
      exact ⟨rfl, Below.refl _ _⟩
    · obtain ⟨b2, o2, rfl, d2⟩ := k2 g0
      refine (Tryz.slices_Equal_int b1 o1 xs.length c1 b2 o2 ys.length c2 xs ys w (Nat.le_refl _) (Nat.le_refl _) (by omega) (by omega) d1 d2).mono ?_
      rintro e w' ⟨rfl, q, rfl⟩
      exact ⟨by rw [List.take_length, List.take_length], ⟨rfl, rfl, rfl, Nat.le_refl _, fun _ _ => rfl⟩⟩
end Go.Proofs.YtlidgjkipbijlaaGreatDoor.nrm
end
