/- What the document's record answers of any fields: the record that they say, if they say one. -/
import Derived.Test.YtciblkmbkdhdiaaDoorLinRefFields
import Derived.Deep.QuietTactic
import Derived.BigQuiet
set_option linter.unusedVariables false
set_option linter.unusedSimpArgs false
namespace Go.Proofs.YtciblkmbkdhdiaaDoor.lin
open Go.RowKit

theorem dots_hit {s : ByteArray} {i : Nat} (h : Lib.NoOcc s.data.toList [46, 46] i) (hi : i + 2 ≤ s.size) (ho : Lib.occAt s.data.toList [46, 46] i = true) : firstV s = s.extract 0 i ∧ secondV s = s.extract (i + 2) s.size := by
  have hx := Lib.index_hit h (by rw [size_list]; omega) ho
  have hc : Lib.cut s.data.toList [46, 46] = (s.data.toList.take i, s.data.toList.drop (i + 2), true) := by
    unfold Lib.cut
    rw [hx, if_pos (by omega)]
    rfl
  unfold secondV firstV
  rw [hc]
  constructor
  · rw [ext_list]; rfl
  · rw [ext_list, show (s.data.toList.drop (i + 2)).take (s.size - (i + 2)) = s.data.toList.drop (i + 2) from List.take_of_length_le (by rw [List.length_drop, size_list]; omega)]; rfl
theorem dots_none {s : ByteArray} {i : Nat} (h : Lib.NoOcc s.data.toList [46, 46] i) (hi : s.size < i + 2) : firstV s = s ∧ secondV s = s := by
  have hx := Lib.index_past (by simp) h (by rw [size_list]; exact hi)
  have hc : Lib.cut s.data.toList [46, 46] = (s.data.toList, [], false) := by
    unfold Lib.cut
    rw [hx, if_neg (by omega)]
  unfold secondV firstV
  rw [hc]
  exact ⟨rfl, rfl⟩
theorem occ_ext (s : ByteArray) (i : Nat) (hi : i + 2 ≤ s.size) : Lib.occAt s.data.toList [46, 46] i = ((s.extract i (i + 2)).data.toList == [46, 46]) := by
  have h0 : i < s.size := by omega
  have h1 : i + 1 < s.size := by omega
  rw [ext_list, BA_data, show i + 2 - i = 2 from by omega]
  unfold Lib.occAt
  rw [drop_cons s i h0, drop_cons s (i + 1) h1]
  simp [List.isPrefixOf, List.take]
  rw [BEq.comm (a := s[i]'h0), BEq.comm (a := s[i + 1]'h1)]

set_option maxHeartbeats 2000000 in
set_option maxRecDepth 100000 in
theorem rrecord_any (f : ByteArray) (fs : List ByteArray) (g cap : Nat) (w : World) (h0 : w.cell? ⟨g, 0, none⟩ = some (.string f)) (hc : ∀ (i : Nat) (x : ByteArray), fs[i]? = some x → w.cell? ⟨g, i + 1, none⟩ = some (.string x)) (hsz : f.size ≤ 1073741824) (hn : fs.length + 1 ≤ cap) (hcap : cap ≤ maxLen) (hl : fs.length ≤ 1099511627776) :
    Calls Tryd.prog 28 #[.slice (some ⟨g, 0, none⟩) (fs.length + 1) cap] w fun e w' => ∃ fv, e = .returned (.tuple #[if recB (f :: fs) then .agg #[.int .i64 (boundsLo f), .int .i64 (boundsHi f), fv] else .agg #[.int .i64 0, .int .i64 0, .slice none 0 0], .bool (recB (f :: fs))]) ∧ (recB (f :: fs) = true → FAt w' w.heap.size fv fs) ∧ Below w.heap.size w w' := by
  obtain ⟨i0, hinf, hz0, hy1, hz2⟩ := info_parts infoStr2
  have HRB : Hid (recB (f :: fs) = (decide (1 ≤ fs.length) && boundsB f)) := recB_cons f fs
  have HC : Hid (∀ (i : Nat) (x : ByteArray), fs[i]? = some x → w.cell? ⟨g, i + 1, none⟩ = some (.string x)) := hc
  clear hc
  have hgl : g < w.heap.size := World.block_lt_of_cell? w _ h0
  have A0 : ∀ o, (w.alloc o).cell? ⟨g, 0, none⟩ = some (.string f) := fun o => (World.cell?_of_block (w := w) (a := ⟨g, 0, none⟩) (Below.heap_alloc _ _ _ hgl)).trans h0
  by_cases h1 : 1 ≤ fs.length
  · have HB3 : Hid (∀ A B, firstV f = A → secondV f = B → boundsB f = (hexB A && hexB B && decide (hexN A ≤ hexN B)) ∧ boundsLo f = (if boundsB f then hexN A else 0) ∧ boundsHi f = (if boundsB f then hexN B else 0)) := by
      rintro A B rfl rfl
      exact ⟨rfl, rfl, rfl⟩
    generalize recB (f :: fs) = RB at *
    generalize boundsB f = ok at *
    generalize boundsLo f = lo at *
    generalize boundsHi f = hi at *
    go_enter Tryd.func28, Tryd.ntmps28
    have t0 : decide ((fs.length : Int) + 1 < 2) = false := by rw [decide_eq_false_iff_not]; omega
    go_wp2
    go_quiet (fail)
    go_wp2
    go_loopw [4, 5, 6] (fun lo hi i wr => ∃ k : Nat, lo = .string f ∧ hi = .string f ∧ i = .int .i64 k ∧ k ≤ f.size ∧ Hid (Lib.NoOcc f.data.toList [46, 46] k) ∧ ∃ q, wr = (w.alloc (.cells #[.int .i64 0, .int .i64 0, .slice none 0 0] 42)).drewN q) (fun _ _ i _ => f.size - (RowKit.intOf i).toNat)
    case atStart => exact ⟨0, rfl, rfl, rfl, Nat.zero_le _, fun j h => absurd h (Nat.not_lt_zero _), _, rfl⟩
    case round =>
      obtain ⟨k, rfl, rfl, rfl, hk, HNO, q, rfl⟩ := hrel
      by_cases hlt : k + 2 ≤ f.size
      · have l1 : (k : Int) + 1 < (f.size : Int) := by omega
        have l2 : (k : Int) + 2 ≤ (f.size : Int) := by omega
        have ho := occ_ext f k hlt
        cases hoc : Lib.occAt f.data.toList [46, 46] k with
        | true =>
          have t1 : ((f.extract k (k + 2)).toList == [46, 46]) = true := by rw [Lib.toList_data, ← ho]; exact hoc
          obtain ⟨hA, hB⟩ := dots_hit HNO.out hlt hoc
          have HA : Hid (firstV f = f.extract 0 k) := hA
          have HB : Hid (secondV f = f.extract (k + 2) f.size) := hB
          have sA : (f.extract 0 k).size ≤ 1073741824 := by rw [ByteArray.size_extract]; omega
          have sB : (f.extract (k + 2) f.size).size ≤ 1073741824 := by rw [ByteArray.size_extract]; omega
          clear hA hB ho hoc HNO
          go_wp2
          go_quiet (fail)
          have hbb : ∀ q, Below w.heap.size w ((w.alloc (.cells #[.int .i64 0, .int .i64 0, .slice none 0 0] 42)).drewN q) := fun q => ((Below.refl _ w).alloc (Nat.le_refl _) _).trans ⟨rfl, rfl, rfl, Nat.le_refl _, fun _ _ => rfl⟩
          have hrow : ∀ q, ((w.alloc (.cells #[.int .i64 0, .int .i64 0, .slice none 0 0] 42)).drewN q).heap[w.heap.size]? = some (.cells #[.int .i64 0, .int .i64 0, .slice none 0 0] 42) := fun q => heap_alloc_new w _
          have HROW : Hid (∀ q, ((w.alloc (.cells #[.int .i64 0, .int .i64 0, .slice none 0 0] 42)).drewN q).heap[w.heap.size]? = some (.cells #[.int .i64 0, .int .i64 0, .slice none 0 0] 42)) := hrow
          have HBE : Hid (∀ q, Below w.heap.size w ((w.alloc (.cells #[.int .i64 0, .int .i64 0, .slice none 0 0] 42)).drewN q)) := hbb
          obtain ⟨x, hx⟩ : ∃ x, hexN (f.extract 0 k) = x := ⟨_, rfl⟩
          obtain ⟨p, hp⟩ : ∃ p, hexB (f.extract 0 k) = p := ⟨_, rfl⟩
          obtain ⟨y, hy⟩ : ∃ y, hexN (f.extract (k + 2) f.size) = y := ⟨_, rfl⟩
          obtain ⟨r, hr⟩ : ∃ r, hexB (f.extract (k + 2) f.size) = r := ⟨_, rfl⟩
          have H1 : ∀ W, Calls Tryd.prog 19 #[.string (f.extract 0 k)] W fun e w' => e = .returned (.tuple #[.int .i64 x, .bool p]) ∧ w' = W := fun W => by have := rhex_any (f.extract 0 k) W (by omega); rw [hx, hp] at this; exact this
          have H2 : ∀ W, Calls Tryd.prog 19 #[.string (f.extract (k + 2) f.size)] W fun e w' => e = .returned (.tuple #[.int .i64 y, .bool r]) ∧ w' = W := fun W => by have := rhex_any (f.extract (k + 2) f.size) W (by omega); rw [hy, hr] at this; exact this
          obtain ⟨hok, hlo, hhi⟩ := HB3.out _ _ HA.out HB.out
          have HOK : Hid (ok = (p && r && decide (x ≤ y))) := by subst hx hp hy hr; exact hok
          have HLO : Hid (lo = if ok then x else 0) := by subst hx; exact hlo
          have HHI : Hid (hi = if ok then y else 0) := by subst hy; exact hhi
          clear HA HB HB3 hok hlo hhi hx hp hy hr hrow hbb
          go_wp2_with fail
          refine (H1 _).mono ?_
          rintro e w1 ⟨rfl, hw1⟩
          subst hw1
          go_wp2_with fail
          refine (H2 _).mono ?_
          rintro e w1 ⟨rfl, hw1⟩
          subst hw1
          clear H1 H2
          cases ok with
          | false =>
            obtain rfl : RB = false := by rw [HRB.out]; simp
            cases p with
            | false =>
              clear HLO HHI HRB HOK
              go_wp2
              refine bodyPost_ret (results_row_tmp Tryd.results28 _ _ w.heap.size _ _ _ _ rfl (row3_set (HROW.out _) _ _ _) Tryd.underlying42 rfl infoRec) rfl ?_
              exact ⟨rfl, below3_set (HBE.out _) _ _ _⟩
            | true =>
              cases r with
              | false =>
                clear HLO HHI HRB HOK
                go_wp2
                refine bodyPost_ret (results_row_tmp Tryd.results28 _ _ w.heap.size _ _ _ _ rfl (row3_set (HROW.out _) _ _ _) Tryd.underlying42 rfl infoRec) rfl ?_
                exact ⟨rfl, below3_set (HBE.out _) _ _ _⟩
              | true =>
                have hxy : decide (x ≤ y) = false := by have := HOK.out; simpa using this.symm
                have hyx : y < x := by have := of_decide_eq_false hxy; omega
                clear HLO HHI HRB HOK hxy
                go_wp2
                refine bodyPost_ret (results_row_tmp Tryd.results28 _ _ w.heap.size _ _ _ _ rfl (row3_set (HROW.out _) _ _ _) Tryd.underlying42 rfl infoRec) rfl ?_
                exact ⟨rfl, below3_set (HBE.out _) _ _ _⟩
          | true =>
            obtain rfl : RB = true := by rw [HRB.out]; simp [h1]
            have hpr : (p && r && decide (x ≤ y)) = true := HOK.out.symm
            obtain ⟨⟨rfl, rfl⟩, hxy⟩ : (p = true ∧ r = true) ∧ x ≤ y := by simpa using hpr
            obtain rfl : lo = x := by rw [HLO.out]; rfl
            obtain rfl : hi = y := by rw [HHI.out]; rfl
            clear HLO HHI HRB HOK hpr
            have own0 : ∀ q, (((w.alloc (.cells #[.int .i64 0, .int .i64 0, .slice none 0 0] 42)).drewN q).alloc (.cells #[] 9)).ownsRow (w.heap.size + 1) 9 1 (.slice (some ⟨w.heap.size + 1, 0, none⟩) 0 0) 0 [] := fun q =>
              ⟨rfl, .inr ⟨w.heap.size + 1, 0, #[], rfl, Nat.le_refl _, by have := World.alloc_heap_new ((w.alloc (.cells #[.int .i64 0, .int .i64 0, .slice none 0 0] 42)).drewN q) (.cells #[] 9); rwa [show ((w.alloc (.cells #[.int .i64 0, .int .i64 0, .slice none 0 0] 42)).drewN q).heap.size = w.heap.size + 1 from World.size_alloc _ _] at this, Nat.le_refl _, Nat.zero_le _, rfl, rfl⟩⟩
            have OWN0 : Hid (∀ q, (((w.alloc (.cells #[.int .i64 0, .int .i64 0, .slice none 0 0] 42)).drewN q).alloc (.cells #[] 9)).ownsRow (w.heap.size + 1) 9 1 (.slice (some ⟨w.heap.size + 1, 0, none⟩) 0 0) 0 []) := own0
            have BEL : Hid (∀ q, Below w.heap.size w (((w.alloc (.cells #[.int .i64 0, .int .i64 0, .slice none 0 0] 42)).drewN q).alloc (.cells #[] 9))) := fun q => (HBE.out q).alloc (HBE.out q).size _
            have CEL : Hid (∀ q (j : Nat) (u : Value), (fs.map Value.string)[j]? = some u → (((w.alloc (.cells #[.int .i64 0, .int .i64 0, .slice none 0 0] 42)).drewN q).alloc (.cells #[] 9)).cell? ((⟨g, 1, none⟩ : Addr).add j) = some u) := by
              intro q j u hj
              rw [List.getElem?_map] at hj
              cases hx : fs[j]? with
              | none => rw [hx] at hj; cases hj
              | some x0 =>
                rw [hx] at hj
                obtain rfl : Value.string x0 = u := by simpa using hj
                rw [show ((⟨g, 1, none⟩ : Addr).add j) = ⟨g, j + 1, none⟩ from by rw [Addr.add_lit, Nat.add_comm], (BEL.out q).cell (p := ⟨g, j + 1, none⟩) hgl]
                exact HC.out j x0 hx
            have RW4 : Hid (∀ q, (((w.alloc (.cells #[.int .i64 0, .int .i64 0, .slice none 0 0] 42)).drewN q).alloc (.cells #[] 9)).heap[w.heap.size]? = some (.cells #[.int .i64 0, .int .i64 0, .slice none 0 0] 42)) := fun q => (Below.heap_alloc _ _ _ (by show w.heap.size < (w.alloc _).heap.size; simp)).trans (HROW.out q)
            have SZ4 : Hid (∀ q, (((w.alloc (.cells #[.int .i64 0, .int .i64 0, .slice none 0 0] 42)).drewN q).alloc (.cells #[] 9)).heap.size = w.heap.size + 2) := fun q => by
              rw [World.size_alloc, show ((w.alloc (.cells #[.int .i64 0, .int .i64 0, .slice none 0 0] 42)).drewN q).heap.size = w.heap.size + 1 from World.size_alloc _ _]
            clear own0 HROW HBE
            go_wp2_with (at_builtin; refine wpList_append_own _ rfl _ _ 28 rfl (w.heap.size + 1) 9 i0 (.string ByteArray.empty) 1 16 Tryd.underlying28 hinf hz0 hy1 hz2 rfl (by decide) _ _ _ rfl (OWN0.out _) ⟨g, 1, none⟩ fs.length (cap - 1) (fs.map Value.string) rfl (by simp) (CEL.out _) (by simp [Value.oneCell']) (by unfold maxLen; omega) (by omega) (by rw [SZ4.out]; omega) ?_)
            intro v' w4 hown4 hgrow _
            have hown5 : w4.ownsRow (w.heap.size + 1) 9 1 v' fs.length (fs.map Value.string) := by simpa using hown4
            have hrow4 : w4.heap[w.heap.size]? = some (.cells #[.int .i64 0, .int .i64 0, .slice none 0 0] 42) := (hgrow.block w.heap.size (by rw [SZ4.out]; omega) (by simp [Value.ownBlock])).trans (RW4.out _)
            have b4 : Below w.heap.size w w4 := (BEL.out _).grown hgrow (by rw [SZ4.out]; omega) (fun j e => by simp [Value.ownBlock] at e; omega)
            obtain ⟨va, vc, rfl, hrv⟩ := strRow hown5
            obtain ⟨g', rfl, hg1, hg2, _, _, ⟨cur, hcur, hcc⟩, _⟩ := hrv (by omega)
            have HCU : Hid (w4.heap[g']? = some (.cells cur 9 (0, 0)) ∧ ∀ (i : Nat) (x : ByteArray), fs[i]? = some x → cur[i]? = some (Value.string x)) := ⟨hcur, hcc⟩
            have HR4 : Hid (w4.heap[w.heap.size]? = some (.cells #[.int .i64 0, .int .i64 0, .slice none 0 0] 42)) := hrow4
            have k0 := cell_of_row w4 w.heap.size 0 _ _ _ hrow4
            have k1 := cell_of_row w4 w.heap.size 1 _ _ _ hrow4
            have k2 := cell_of_row w4 w.heap.size 2 _ _ _ hrow4
            have f0 := frozen_of_row w4 w.heap.size 0 _ _ hrow4
            have f1 := frozen_of_row w4 w.heap.size 1 _ _ hrow4
            have f2 := frozen_of_row w4 w.heap.size 2 _ _ hrow4
            simp at k0 k1 k2
            clear hown4 hown5 hgrow hrow4 hrv hcur hcc OWN0 BEL CEL RW4 SZ4
            go_wp2
            refine bodyPost_ret (results_row_tmp Tryd.results28 _ _ w.heap.size _ _ _ _ rfl (row3_set HR4.out _ _ _) Tryd.underlying42 rfl infoRec) rfl ?_
            refine ⟨_, rfl, ⟨g', 0, vc, cur, rfl, by omega, ?_, fun j hj => ?_⟩, below3_set b4 _ _ _⟩
            · rw [Below.heap_setCell _ _ _ g' (by show g' ≠ w.heap.size; omega), Below.heap_setCell _ _ _ g' (by show g' ≠ w.heap.size; omega), Below.heap_setCell _ _ _ g' (by show g' ≠ w.heap.size; omega)]
              exact HCU.out.1
            · rw [Nat.zero_add, HCU.out.2 j _ (List.getElem?_eq_getElem hj), List.getD_eq_getElem?_getD, List.getElem?_eq_getElem hj]
              rfl
        | false =>
          have t1 : ((f.extract k (k + 2)).toList == [46, 46]) = false := by rw [Lib.toList_data, ← ho]; exact hoc
          have HNO2 : Hid (Lib.NoOcc f.data.toList [46, 46] (k + 1)) := by
            intro j hj
            rcases Nat.lt_or_ge j k with h | h
            · exact HNO.out j h
            · obtain rfl : j = k := by omega
              exact hoc
          clear ho hoc HNO
          go_wp2
          go_roundw
          case rel => exact ⟨k + 1, rfl, rfl, by go_num, by omega, HNO2, _, rfl⟩
          case measure => simp [RowKit.intOf]; omega
      · have l1 : ¬ ((k : Int) + 1 < (f.size : Int)) := by omega
        obtain ⟨hA, hB⟩ := dots_none HNO.out (by omega)
        have HA : Hid (firstV f = f) := hA
        have HB : Hid (secondV f = f) := hB
        clear hA hB HNO
        have hbb : ∀ q, Below w.heap.size w ((w.alloc (.cells #[.int .i64 0, .int .i64 0, .slice none 0 0] 42)).drewN q) := fun q => ((Below.refl _ w).alloc (Nat.le_refl _) _).trans ⟨rfl, rfl, rfl, Nat.le_refl _, fun _ _ => rfl⟩
        have hrow : ∀ q, ((w.alloc (.cells #[.int .i64 0, .int .i64 0, .slice none 0 0] 42)).drewN q).heap[w.heap.size]? = some (.cells #[.int .i64 0, .int .i64 0, .slice none 0 0] 42) := fun q => heap_alloc_new w _
        have HROW : Hid (∀ q, ((w.alloc (.cells #[.int .i64 0, .int .i64 0, .slice none 0 0] 42)).drewN q).heap[w.heap.size]? = some (.cells #[.int .i64 0, .int .i64 0, .slice none 0 0] 42)) := hrow
        have HBE : Hid (∀ q, Below w.heap.size w ((w.alloc (.cells #[.int .i64 0, .int .i64 0, .slice none 0 0] 42)).drewN q)) := hbb
        obtain ⟨x, hx⟩ : ∃ x, hexN (f) = x := ⟨_, rfl⟩
        obtain ⟨p, hp⟩ : ∃ p, hexB (f) = p := ⟨_, rfl⟩
        obtain ⟨y, hy⟩ : ∃ y, hexN (f) = y := ⟨_, rfl⟩
        obtain ⟨r, hr⟩ : ∃ r, hexB (f) = r := ⟨_, rfl⟩
        have H1 : ∀ W, Calls Tryd.prog 19 #[.string (f)] W fun e w' => e = .returned (.tuple #[.int .i64 x, .bool p]) ∧ w' = W := fun W => by have := rhex_any (f) W (by omega); rw [hx, hp] at this; exact this
        have H2 : ∀ W, Calls Tryd.prog 19 #[.string (f)] W fun e w' => e = .returned (.tuple #[.int .i64 y, .bool r]) ∧ w' = W := fun W => by have := rhex_any (f) W (by omega); rw [hy, hr] at this; exact this
        obtain ⟨hok, hlo, hhi⟩ := HB3.out _ _ HA.out HB.out
        have HOK : Hid (ok = (p && r && decide (x ≤ y))) := by subst hx hp hy hr; exact hok
        have HLO : Hid (lo = if ok then x else 0) := by subst hx; exact hlo
        have HHI : Hid (hi = if ok then y else 0) := by subst hy; exact hhi
        clear HA HB HB3 hok hlo hhi hx hp hy hr hrow hbb
        go_wp2_with fail
        refine (H1 _).mono ?_
        rintro e w1 ⟨rfl, hw1⟩
        subst hw1
        go_wp2_with fail
        refine (H2 _).mono ?_
        rintro e w1 ⟨rfl, hw1⟩
        subst hw1
        clear H1 H2
        cases ok with
        | false =>
          obtain rfl : RB = false := by rw [HRB.out]; simp
          cases p with
          | false =>
            clear HLO HHI HRB HOK
            go_wp2
            refine bodyPost_ret (results_row_tmp Tryd.results28 _ _ w.heap.size _ _ _ _ rfl (row3_set (HROW.out _) _ _ _) Tryd.underlying42 rfl infoRec) rfl ?_
            exact ⟨rfl, below3_set (HBE.out _) _ _ _⟩
          | true =>
            cases r with
            | false =>
              clear HLO HHI HRB HOK
              go_wp2
              refine bodyPost_ret (results_row_tmp Tryd.results28 _ _ w.heap.size _ _ _ _ rfl (row3_set (HROW.out _) _ _ _) Tryd.underlying42 rfl infoRec) rfl ?_
              exact ⟨rfl, below3_set (HBE.out _) _ _ _⟩
            | true =>
              have hxy : decide (x ≤ y) = false := by have := HOK.out; simpa using this.symm
              have hyx : y < x := by have := of_decide_eq_false hxy; omega
              clear HLO HHI HRB HOK hxy
              go_wp2
              refine bodyPost_ret (results_row_tmp Tryd.results28 _ _ w.heap.size _ _ _ _ rfl (row3_set (HROW.out _) _ _ _) Tryd.underlying42 rfl infoRec) rfl ?_
              exact ⟨rfl, below3_set (HBE.out _) _ _ _⟩
        | true =>
          obtain rfl : RB = true := by rw [HRB.out]; simp [h1]
          have hpr : (p && r && decide (x ≤ y)) = true := HOK.out.symm
          obtain ⟨⟨rfl, rfl⟩, hxy⟩ : (p = true ∧ r = true) ∧ x ≤ y := by simpa using hpr
          obtain rfl : lo = x := by rw [HLO.out]; rfl
          obtain rfl : hi = y := by rw [HHI.out]; rfl
          clear HLO HHI HRB HOK hpr
          have own0 : ∀ q, (((w.alloc (.cells #[.int .i64 0, .int .i64 0, .slice none 0 0] 42)).drewN q).alloc (.cells #[] 9)).ownsRow (w.heap.size + 1) 9 1 (.slice (some ⟨w.heap.size + 1, 0, none⟩) 0 0) 0 [] := fun q =>
            ⟨rfl, .inr ⟨w.heap.size + 1, 0, #[], rfl, Nat.le_refl _, by have := World.alloc_heap_new ((w.alloc (.cells #[.int .i64 0, .int .i64 0, .slice none 0 0] 42)).drewN q) (.cells #[] 9); rwa [show ((w.alloc (.cells #[.int .i64 0, .int .i64 0, .slice none 0 0] 42)).drewN q).heap.size = w.heap.size + 1 from World.size_alloc _ _] at this, Nat.le_refl _, Nat.zero_le _, rfl, rfl⟩⟩
          have OWN0 : Hid (∀ q, (((w.alloc (.cells #[.int .i64 0, .int .i64 0, .slice none 0 0] 42)).drewN q).alloc (.cells #[] 9)).ownsRow (w.heap.size + 1) 9 1 (.slice (some ⟨w.heap.size + 1, 0, none⟩) 0 0) 0 []) := own0
          have BEL : Hid (∀ q, Below w.heap.size w (((w.alloc (.cells #[.int .i64 0, .int .i64 0, .slice none 0 0] 42)).drewN q).alloc (.cells #[] 9))) := fun q => (HBE.out q).alloc (HBE.out q).size _
          have CEL : Hid (∀ q (j : Nat) (u : Value), (fs.map Value.string)[j]? = some u → (((w.alloc (.cells #[.int .i64 0, .int .i64 0, .slice none 0 0] 42)).drewN q).alloc (.cells #[] 9)).cell? ((⟨g, 1, none⟩ : Addr).add j) = some u) := by
            intro q j u hj
            rw [List.getElem?_map] at hj
            cases hx : fs[j]? with
            | none => rw [hx] at hj; cases hj
            | some x0 =>
              rw [hx] at hj
              obtain rfl : Value.string x0 = u := by simpa using hj
              rw [show ((⟨g, 1, none⟩ : Addr).add j) = ⟨g, j + 1, none⟩ from by rw [Addr.add_lit, Nat.add_comm], (BEL.out q).cell (p := ⟨g, j + 1, none⟩) hgl]
              exact HC.out j x0 hx
          have RW4 : Hid (∀ q, (((w.alloc (.cells #[.int .i64 0, .int .i64 0, .slice none 0 0] 42)).drewN q).alloc (.cells #[] 9)).heap[w.heap.size]? = some (.cells #[.int .i64 0, .int .i64 0, .slice none 0 0] 42)) := fun q => (Below.heap_alloc _ _ _ (by show w.heap.size < (w.alloc _).heap.size; simp)).trans (HROW.out q)
          have SZ4 : Hid (∀ q, (((w.alloc (.cells #[.int .i64 0, .int .i64 0, .slice none 0 0] 42)).drewN q).alloc (.cells #[] 9)).heap.size = w.heap.size + 2) := fun q => by
            rw [World.size_alloc, show ((w.alloc (.cells #[.int .i64 0, .int .i64 0, .slice none 0 0] 42)).drewN q).heap.size = w.heap.size + 1 from World.size_alloc _ _]
          clear own0 HROW HBE
          go_wp2_with (at_builtin; refine wpList_append_own _ rfl _ _ 28 rfl (w.heap.size + 1) 9 i0 (.string ByteArray.empty) 1 16 Tryd.underlying28 hinf hz0 hy1 hz2 rfl (by decide) _ _ _ rfl (OWN0.out _) ⟨g, 1, none⟩ fs.length (cap - 1) (fs.map Value.string) rfl (by simp) (CEL.out _) (by simp [Value.oneCell']) (by unfold maxLen; omega) (by omega) (by rw [SZ4.out]; omega) ?_)
          intro v' w4 hown4 hgrow _
          have hown5 : w4.ownsRow (w.heap.size + 1) 9 1 v' fs.length (fs.map Value.string) := by simpa using hown4
          have hrow4 : w4.heap[w.heap.size]? = some (.cells #[.int .i64 0, .int .i64 0, .slice none 0 0] 42) := (hgrow.block w.heap.size (by rw [SZ4.out]; omega) (by simp [Value.ownBlock])).trans (RW4.out _)
          have b4 : Below w.heap.size w w4 := (BEL.out _).grown hgrow (by rw [SZ4.out]; omega) (fun j e => by simp [Value.ownBlock] at e; omega)
          obtain ⟨va, vc, rfl, hrv⟩ := strRow hown5
          obtain ⟨g', rfl, hg1, hg2, _, _, ⟨cur, hcur, hcc⟩, _⟩ := hrv (by omega)
          have HCU : Hid (w4.heap[g']? = some (.cells cur 9 (0, 0)) ∧ ∀ (i : Nat) (x : ByteArray), fs[i]? = some x → cur[i]? = some (Value.string x)) := ⟨hcur, hcc⟩
          have HR4 : Hid (w4.heap[w.heap.size]? = some (.cells #[.int .i64 0, .int .i64 0, .slice none 0 0] 42)) := hrow4
          have k0 := cell_of_row w4 w.heap.size 0 _ _ _ hrow4
          have k1 := cell_of_row w4 w.heap.size 1 _ _ _ hrow4
          have k2 := cell_of_row w4 w.heap.size 2 _ _ _ hrow4
          have f0 := frozen_of_row w4 w.heap.size 0 _ _ hrow4
          have f1 := frozen_of_row w4 w.heap.size 1 _ _ hrow4
          have f2 := frozen_of_row w4 w.heap.size 2 _ _ hrow4
          simp at k0 k1 k2
          clear hown4 hown5 hgrow hrow4 hrv hcur hcc OWN0 BEL CEL RW4 SZ4
          go_wp2
          refine bodyPost_ret (results_row_tmp Tryd.results28 _ _ w.heap.size _ _ _ _ rfl (row3_set HR4.out _ _ _) Tryd.underlying42 rfl infoRec) rfl ?_
          refine ⟨_, rfl, ⟨g', 0, vc, cur, rfl, by omega, ?_, fun j hj => ?_⟩, below3_set b4 _ _ _⟩
          · rw [Below.heap_setCell _ _ _ g' (by show g' ≠ w.heap.size; omega), Below.heap_setCell _ _ _ g' (by show g' ≠ w.heap.size; omega), Below.heap_setCell _ _ _ g' (by show g' ≠ w.heap.size; omega)]
            exact HCU.out.1
          · rw [Nat.zero_add, HCU.out.2 j _ (List.getElem?_eq_getElem hj), List.getD_eq_getElem?_getD, List.getElem?_eq_getElem hj]
            rfl
  · obtain hRB : recB (f :: fs) = false := by rw [HRB.out]; simp [h1]
    rw [hRB]
    have t0 : decide ((fs.length : Int) + 1 < 2) = true := by rw [decide_eq_true_iff]; omega
    clear hRB HRB
    go_enter Tryd.func28, Tryd.ntmps28
    go_wp2
    refine bodyPost_ret (results_row_tmp Tryd.results28 _ _ w.heap.size _ _ _ _ rfl (heap_alloc_new w _) Tryd.underlying42 rfl infoRec) rfl ?_
    exact ⟨rfl, (Below.refl _ w).alloc (Nat.le_refl _) _⟩
end Go.Proofs.YtciblkmbkdhdiaaDoor.lin
