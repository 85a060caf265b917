/- The document's Edges; AuditEdges walked. -/
import Derived.Test.YtpdkdfgcnhcmkaaAudEdg3
set_option linter.unusedVariables false
set_option linter.unusedSimpArgs false
namespace Go.Proofs.Ytpdkdfgcnhcmkaa.aud
open Go.RowKit
open Go.Proofs.Ytpdkdfgcnhcmkaa.edt
open Go.Proofs.Ytpdkdfgcnhcmkaa.utf (items IsB)

set_option maxHeartbeats 4000000 in
theorem redges_any (ao : Option Addr) (n cap : Nat) (b : List Int) (al : Option Addr) (nl cl : Nat) (l : List (List Sp)) (w : World) (hB : BS w ao n cap b) (hS : MS w al nl cl l) (hn : n ≤ 1048576) :
    Calls Try.prog 12 #[.slice ao n cap, .slice al nl cl] w fun e w' => e = .returned (.bool (edgB (items (fun i => b.getD i 0) n 0) n l)) ∧ Below w.heap.size w w' := by
  have EO := utf.rdecode_any ao n cap (fun i => b.getD i 0) w (isB_of hB) (by omega) hB.nc hB.cm hB.rg
  have hcnt := it_count (fun i => b.getD i 0) n _ 0 rfl
  have hnc := hS.nc
  have hcm := hS.cm
  have HS : Hid (MS w al nl cl l) := hS
  clear hS hB
  generalize items (fun i => b.getD i 0) n 0 = L at *
  obtain ⟨N, hN⟩ : ∃ N, L.length = N := ⟨_, rfl⟩
  have HN : Hid (L.length = N) := hN
  rw [hN] at EO hcnt
  clear hN
  go_enter Try.func12, Try.ntmps12
  go_wp2_with fail
  refine EO.mono ?_
  rintro e w1 ⟨v, rfl, hR, hb1⟩
  obtain ⟨ai, ci, rfl⟩ := own_slice hR
  have HR1 : Hid (ItemsAt w1 w.heap.size (.slice ai N ci) L) := by show ItemsAt _ _ _ _; unfold ItemsAt; rw [HN.out]; exact hR
  have HB1 : Hid (Below w.heap.size w w1) := hb1
  clear hR hb1 EO
  go_wp2
  go_loopw [14] (fun i wr => ∃ k : Nat, k ≤ nl ∧ i = .int .i64 k ∧ Hid (ItemsAt wr w.heap.size (.slice ai N ci) L) ∧ Hid (Below w.heap.size w wr) ∧ Hid (edgB L n (l.drop k) = edgB L n l)) (fun i _ => nl - (intOf i).toNat)
  case atStart => exact ⟨0, Nat.zero_le _, rfl, HR1, HB1, rfl⟩
  case round =>
    clear HR1 HB1
    obtain ⟨k, hk, rfl, RK, BK, HK⟩ := hrel
    by_cases hlt : k < nl
    · obtain ⟨bb, off, rfl, hc⟩ := (HS.out.below BK.out).at_ (by omega)
      obtain ⟨a, m, c, c0, hs⟩ := hc k hlt
      clear hc
      have HK2 : Hid (((l.getD k []).all (spB L n) && edgB L n (l.drop (k + 1))) = edgB L n l) := by
        have := HK.out
        unfold edgB at this ⊢
        rw [all_drop l [] _ k (by rw [HS.out.len]; exact hlt)] at this
        exact this
      generalize l.getD k [] = ms at *
      have hmc := hs.nc
      have hmm := hs.cm
      have HSS : Hid (SS wr a m c ms) := hs
      clear hs HK
      have RA : Hid (ItemsAt (wr.alloc (.cells #[.slice a m c] 37)) w.heap.size (.slice ai N ci) L) := RK.out.alloc _
      have BA : Hid (Below w.heap.size w (wr.alloc (.cells #[.slice a m c] 37))) := BK.out.alloc BK.out.size _
      have SA : Hid (SS (wr.alloc (.cells #[.slice a m c] 37)) a m c ms) := HSS.out.below ((Below.refl _ _).alloc (Nat.le_refl _) _)
      clear RK BK HSS
      go_wp2
      generalize wr.alloc (.cells #[.slice a m c] 37) = W at *
      go_loopw [21] (fun i wq => ∃ j : Nat, j ≤ m ∧ i = .int .i64 j ∧ Hid (ItemsAt wq w.heap.size (.slice ai N ci) L) ∧ Hid (Below w.heap.size w wq) ∧ Hid (Below W.heap.size W wq) ∧ Hid ((ms.drop j).all (spB L n) = ms.all (spB L n))) (fun i _ => m - (intOf i).toNat)
      case atStart => exact ⟨0, Nat.zero_le _, rfl, RA, BA, Below.refl _ _, rfl⟩
      case round =>
        obtain ⟨j, hj, rfl, RJ, BJ, BW, HJ⟩ := hrel
        clear RA BA
        by_cases hjl : j < m
        · obtain ⟨b2, off2, rfl, hc2⟩ := (SA.out.below BW.out).at_ (by omega)
          obtain ⟨q1, q2⟩ := hc2 j hjl
          have HJ2 : Hid ((spB L n (ms.getD j (0, 0)) && (ms.drop (j + 1)).all (spB L n)) = ms.all (spB L n)) := by
            have := HJ.out
            rw [all_drop ms (0, 0) _ j (by rw [SA.out.len]; exact hjl)] at this
            exact this
          clear hc2 HJ
          generalize ms.getD j (0, 0) = q at *
          obtain ⟨x, y⟩ := q
          simp only at q1 q2
          have OJ2 : Hid (ItemsAt (wr.alloc (.cells #[.int .i64 x, .int .i64 y] 34)) w.heap.size (.slice ai N ci) L) := RJ.out.alloc _
          have BJ2 : Hid (Below w.heap.size w (wr.alloc (.cells #[.int .i64 x, .int .i64 y] 34))) := BJ.out.alloc BJ.out.size _
          have BW2 : Hid (Below W.heap.size W (wr.alloc (.cells #[.int .i64 x, .int .i64 y] 34))) := BW.out.alloc BW.out.size _
          clear RJ BJ BW
          have HNN : Hid (L.length = N) := HN
          have hLN : L.length ≤ 1048576 := by rw [HN.out]; omega
          by_cases hx : x = -1
          · subst hx
            by_cases hy : y = -1
            · subst hy
              have HJ3 : Hid ((ms.drop (j + 1)).all (spB L n) = ms.all (spB L n)) := by have h1 := HJ2.out; rw [show spB L n (-1, -1) = true from by simp [spB], Bool.true_and] at h1; exact h1
              clear HJ2 hLN
              go_wp2
              go_roundw
              case rel => exact ⟨j + 1, by omega, by go_num, OJ2, BJ2, BW2, HJ3⟩
              case measure => simp [intOf]; omega
            · by_cases h3 : y < (-1)
              · have e8 : spB L n ((-1), y) = false := by unfold spB; simp; omega
                have e9 : Hid (edgB L n l = false) := by have h1 := HK2.out; rw [← HJ2.out, e8, Bool.false_and, Bool.false_and] at h1; exact h1.symm
                clear HJ2 e8
                go_wp2_with fail
                go_ret
                exact ⟨ret_bool e9.out.symm, BJ2.out⟩
              · have e7 : spB L n ((-1), y) = (egB L n (-1) && egB L n y) := by
                  unfold spB
                  rw [show (decide (((-1), y).1 ≤ ((-1), y).2)) = true from decide_eq_true (by simp only; omega), show (decide (((-1), y).1 = -1) && decide (((-1), y).2 = -1)) = false from by simp; omega]
                  simp
                have h3' : (-1) ≤ y := by omega
                have E1 := redge_any (.slice ai N ci) _ L n (-1) (wr.alloc (.cells #[.int .i64 (-1), .int .i64 y] 34)) OJ2.out (by omega)
                have E2 : Hid (∀ W', Below (wr.alloc (.cells #[.int .i64 (-1), .int .i64 y] 34)).heap.size (wr.alloc (.cells #[.int .i64 (-1), .int .i64 y] 34)) W' → Calls Try.prog 20 #[.slice ai N ci, .int .i64 n, .int .i64 y] W' fun e w' => e = .returned (.bool (egB L n y)) ∧ Below W'.heap.size W' w') := fun W' hb => redge_any _ _ L n y W' (own_below OJ2.out hb) (by omega)
                rw [e7] at HJ2
                have HE : Hid _ := e7
                clear e7
                have bs := Bk.new wr #[.int .i64 (-1), .int .i64 y] 34
                have hbs := bs.lt
                cases hd : egB L n (-1) with
                | false =>
                  rw [hd] at E1 HJ2
                  have e9 : Hid (edgB L n l = false) := by have h1 := HK2.out; rw [← HJ2.out, Bool.false_and, Bool.false_and, Bool.false_and] at h1; exact h1.symm
                  clear HJ2 hd HE
                  go_wp2_with fail
                  refine E1.mono ?_
                  rintro e w2 ⟨rfl, hb2⟩
                  have R9 : Hid (Below w.heap.size w w2) := BJ2.out.trans (hb2.mono BJ2.out.size)
                  clear hb2 E1 E2 bs hbs
                  go_wp2
                  go_ret
                  exact ⟨ret_bool e9.out.symm, R9.out⟩
                | true =>
                  rw [hd] at E1 HJ2
                  clear HE hd
                  go_wp2_with fail
                  refine E1.mono ?_
                  rintro e w2 ⟨rfl, hb2⟩
                  have s1 : w2.cell? ⟨wr.heap.size, 1, none⟩ = some (.int .i64 y) := (bs.on hb2).cell 1 rfl
                  have E3 := E2.out w2 hb2
                  have R9 : Hid (Below w.heap.size w w2) := BJ2.out.trans (hb2.mono BJ2.out.size)
                  have R8 : Hid (Below W.heap.size W w2) := BW2.out.trans (hb2.mono BW2.out.size)
                  have R7 : Hid (ItemsAt w2 w.heap.size (.slice ai N ci) L) := own_below OJ2.out hb2
                  clear hb2 E1 E2 bs hbs OJ2 BJ2 BW2
                  cases hd : egB L n y with
                  | false =>
                    rw [hd] at E3 HJ2
                    have e9 : Hid (edgB L n l = false) := by have h1 := HK2.out; rw [← HJ2.out, Bool.and_false, Bool.false_and, Bool.false_and] at h1; exact h1.symm
                    clear HJ2 hd
                    go_wp2_with fail
                    refine E3.mono ?_
                    rintro e w3 ⟨rfl, hb3⟩
                    have R6 : Hid (Below w.heap.size w w3) := R9.out.trans (hb3.mono R9.out.size)
                    clear hb3 E3
                    go_wp2
                    go_ret
                    exact ⟨ret_bool e9.out.symm, R6.out⟩
                  | true =>
                    rw [hd] at E3 HJ2
                    have HJ3 : Hid ((ms.drop (j + 1)).all (spB L n) = ms.all (spB L n)) := by have h1 := HJ2.out; rw [Bool.and_true, Bool.true_and] at h1; exact h1
                    clear HJ2 hd
                    go_wp2_with fail
                    refine E3.mono ?_
                    rintro e w3 ⟨rfl, hb3⟩
                    have R6 : Hid (Below w.heap.size w w3) := R9.out.trans (hb3.mono R9.out.size)
                    have R5 : Hid (Below W.heap.size W w3) := R8.out.trans (hb3.mono R8.out.size)
                    have R4 : Hid (ItemsAt w3 w.heap.size (.slice ai N ci) L) := own_below R7.out hb3
                    clear hb3 E3 R7 R8 R9
                    go_wp2
                    go_roundw
                    case rel => exact ⟨j + 1, by omega, by go_num, R4, R6, R5, HJ3⟩
                    case measure => simp [intOf]; omega
          · by_cases h3 : y < x
            · have e8 : spB L n (x, y) = false := by unfold spB; simp; omega
              have e9 : Hid (edgB L n l = false) := by have h1 := HK2.out; rw [← HJ2.out, e8, Bool.false_and, Bool.false_and] at h1; exact h1.symm
              clear HJ2 e8
              go_wp2_with fail
              go_ret
              exact ⟨ret_bool e9.out.symm, BJ2.out⟩
            · have e7 : spB L n (x, y) = (egB L n x && egB L n y) := by
                unfold spB
                rw [show (decide ((x, y).1 ≤ (x, y).2)) = true from decide_eq_true (by simp only; omega), show (decide ((x, y).1 = -1) && decide ((x, y).2 = -1)) = false from by simp; omega]
                simp
              have h3' : x ≤ y := by omega
              have E1 := redge_any (.slice ai N ci) _ L n x (wr.alloc (.cells #[.int .i64 x, .int .i64 y] 34)) OJ2.out (by omega)
              have E2 : Hid (∀ W', Below (wr.alloc (.cells #[.int .i64 x, .int .i64 y] 34)).heap.size (wr.alloc (.cells #[.int .i64 x, .int .i64 y] 34)) W' → Calls Try.prog 20 #[.slice ai N ci, .int .i64 n, .int .i64 y] W' fun e w' => e = .returned (.bool (egB L n y)) ∧ Below W'.heap.size W' w') := fun W' hb => redge_any _ _ L n y W' (own_below OJ2.out hb) (by omega)
              rw [e7] at HJ2
              have HE : Hid _ := e7
              clear e7
              have bs := Bk.new wr #[.int .i64 x, .int .i64 y] 34
              have hbs := bs.lt
              cases hd : egB L n x with
              | false =>
                rw [hd] at E1 HJ2
                have e9 : Hid (edgB L n l = false) := by have h1 := HK2.out; rw [← HJ2.out, Bool.false_and, Bool.false_and, Bool.false_and] at h1; exact h1.symm
                clear HJ2 hd HE
                go_wp2_with fail
                refine E1.mono ?_
                rintro e w2 ⟨rfl, hb2⟩
                have R9 : Hid (Below w.heap.size w w2) := BJ2.out.trans (hb2.mono BJ2.out.size)
                clear hb2 E1 E2 bs hbs
                go_wp2
                go_ret
                exact ⟨ret_bool e9.out.symm, R9.out⟩
              | true =>
                rw [hd] at E1 HJ2
                clear HE hd
                go_wp2_with fail
                refine E1.mono ?_
                rintro e w2 ⟨rfl, hb2⟩
                have s1 : w2.cell? ⟨wr.heap.size, 1, none⟩ = some (.int .i64 y) := (bs.on hb2).cell 1 rfl
                have E3 := E2.out w2 hb2
                have R9 : Hid (Below w.heap.size w w2) := BJ2.out.trans (hb2.mono BJ2.out.size)
                have R8 : Hid (Below W.heap.size W w2) := BW2.out.trans (hb2.mono BW2.out.size)
                have R7 : Hid (ItemsAt w2 w.heap.size (.slice ai N ci) L) := own_below OJ2.out hb2
                clear hb2 E1 E2 bs hbs OJ2 BJ2 BW2
                cases hd : egB L n y with
                | false =>
                  rw [hd] at E3 HJ2
                  have e9 : Hid (edgB L n l = false) := by have h1 := HK2.out; rw [← HJ2.out, Bool.and_false, Bool.false_and, Bool.false_and] at h1; exact h1.symm
                  clear HJ2 hd
                  go_wp2_with fail
                  refine E3.mono ?_
                  rintro e w3 ⟨rfl, hb3⟩
                  have R6 : Hid (Below w.heap.size w w3) := R9.out.trans (hb3.mono R9.out.size)
                  clear hb3 E3
                  go_wp2
                  go_ret
                  exact ⟨ret_bool e9.out.symm, R6.out⟩
                | true =>
                  rw [hd] at E3 HJ2
                  have HJ3 : Hid ((ms.drop (j + 1)).all (spB L n) = ms.all (spB L n)) := by have h1 := HJ2.out; rw [Bool.and_true, Bool.true_and] at h1; exact h1
                  clear HJ2 hd
                  go_wp2_with fail
                  refine E3.mono ?_
                  rintro e w3 ⟨rfl, hb3⟩
                  have R6 : Hid (Below w.heap.size w w3) := R9.out.trans (hb3.mono R9.out.size)
                  have R5 : Hid (Below W.heap.size W w3) := R8.out.trans (hb3.mono R8.out.size)
                  have R4 : Hid (ItemsAt w3 w.heap.size (.slice ai N ci) L) := own_below R7.out hb3
                  clear hb3 E3 R7 R8 R9
                  go_wp2
                  go_roundw
                  case rel => exact ⟨j + 1, by omega, by go_num, R4, R6, R5, HJ3⟩
                  case measure => simp [intOf]; omega
        · obtain rfl : j = m := by omega
          have HK3 : Hid (edgB L n (l.drop (k + 1)) = edgB L n l) := by
            have h1 := HK2.out
            rw [← HJ.out, List.drop_eq_nil_of_le (by rw [SA.out.len]; exact Nat.le_refl _)] at h1
            simp only [List.all_nil, Bool.true_and] at h1
            exact h1
          clear HJ
          go_wp2
          go_roundw
          case rel => exact ⟨k + 1, by omega, by go_num, RJ, BJ, HK3⟩
          case measure => simp [intOf]; omega
    · obtain rfl : k = nl := by omega
      have e1 : edgB L n l = true := by rw [← HK.out, List.drop_eq_nil_of_le (by rw [HS.out.len]; exact Nat.le_refl _)]; rfl
      clear RK HK
      go_wp2
      go_ret
      exact ⟨ret_bool e1.symm, BK.out⟩

theorem edges_walk (ao : Option Addr) (n cap : Nat) (b : List Int) (al : Option Addr) (nl cl : Nat) (l : List (List Sp)) (w : World) (hB : BS w ao n cap b) (hS : MS w al nl cl l) (hn : n ≤ 1048576) (hl : nl ≤ 1048576) :
    Calls Try.prog 4 #[.slice ao n cap, .slice al nl cl] w fun e w' => e = .returned (.bool true) ∧ Below w.heap.size w w' := by
  have L1 := edges_any ao n cap b al nl cl l w hB hS hn
  have HL2 : Hid (∀ W, Below w.heap.size w W → Calls Try.prog 12 #[.slice ao n cap, .slice al nl cl] W fun e w' => e = .returned (.bool (edgB (items (fun i => b.getD i 0) n 0) n l)) ∧ Below W.heap.size W w') := fun W hb => redges_any ao n cap b al nl cl l W (hB.below hb) (hS.below hb) hn
  have HL3 : Hid (∀ W, Below w.heap.size w W → Calls Try.prog 11 #[.slice ao n cap, .slice none 0 0] W fun e w' => e = .returned (.bool true) ∧ Below W.heap.size W w') := fun W hb => edges_any ao n cap b none 0 0 [] W (hB.below hb) (MS.nilv W) hn
  clear hS hB
  generalize edgB (items (fun i => b.getD i 0) n 0) n l = R at *
  go_enter Try.func4, Try.ntmps4
  go_wp2_with fail
  refine L1.mono ?_
  rintro e w1 ⟨rfl, hb1⟩
  have L2 := HL2.out w1 hb1
  have R1 : Hid (Below w.heap.size w w1) := hb1
  clear hb1 L1
  go_wp2_with fail
  refine L2.mono ?_
  rintro e w2 ⟨rfl, hb2⟩
  have R2 : Hid (Below w.heap.size w w2) := R1.out.trans (hb2.mono R1.out.size)
  clear hb2 L2
  have L3 := HL3.out w2 R2.out
  go_wp2_with fail
  refine L3.mono ?_
  rintro e w3 ⟨rfl, hb3⟩
  have R3 : Hid (Below w.heap.size w w3) := R2.out.trans (hb3.mono R2.out.size)
  clear hb3 L3
  go_wp2
  go_ret
  exact ⟨rfl, R3.out⟩
end Go.Proofs.Ytpdkdfgcnhcmkaa.aud
