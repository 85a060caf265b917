/- audit.stands, audit.Edges; the document's edge and Edges. -/
import Derived.Test.YtpdkdfgcnhcmkaaAudEdg
set_option linter.unusedVariables false
set_option linter.unusedSimpArgs false
namespace Go.Proofs.Ytpdkdfgcnhcmkaa.aud
open Go.RowKit
open Go.Proofs.Ytpdkdfgcnhcmkaa.edt
open Go.Proofs.Ytpdkdfgcnhcmkaa.utf (items IsB)

/-- What a row of bools tells of a span. -/
def stB (n : Nat) (h : Int → Bool) (x y : Int) : Bool := (decide (x = -1) && decide (y = -1)) || (decide (0 ≤ x) && decide (x ≤ y) && decide (y ≤ n) && h x && h y)
theorem stB_eq (f : Nat → Int) (n : Nat) (x y : Int) : stB n (egB (items f n 0) n) x y = spB (items f n 0) n (x, y) := by
  have h1 := egB_range f n x
  have h2 := egB_range f n y
  unfold stB spB
  generalize egB (items f n 0) n x = p at *
  generalize egB (items f n 0) n y = q at *
  rw [Bool.eq_iff_iff]
  simp only [Bool.or_eq_true, Bool.and_eq_true, decide_eq_true_eq]
  constructor
  · rintro (h | ⟨⟨⟨⟨a, b⟩, c⟩, d⟩, e⟩)
    · exact .inl h
    · exact .inr ⟨⟨b, d⟩, e⟩
  · rintro (h | ⟨⟨b, d⟩, e⟩)
    · exact .inl h
    · exact .inr ⟨⟨⟨⟨(h1 d).1, b⟩, (h2 e).2⟩, d⟩, e⟩
theorem below2 (w : World) (o1 o2 : Obj) : Below w.heap.size w ((w.alloc o1).alloc o2) := ((Below.refl _ w).alloc (Nat.le_refl _) _).alloc (by simp) _
set_option maxHeartbeats 1000000 in
theorem stands_any (x y : Int) (g B n : Nat) (h : Int → Bool) (w : World) (hn : n ≤ 1048576) (hR : RowIs w B (.slice (some ⟨g, 0, none⟩) (n + 1) (n + 1)) (n + 1) (fun p => h p)) :
    Calls Try.prog 19 #[.agg #[.int .i64 x, .int .i64 y], .slice (some ⟨g, 0, none⟩) (n + 1) (n + 1)] w fun e w' => e = .returned (.bool (stB n h x y)) ∧ Below w.heap.size w w' := by
  have hg : g < w.heap.size := (hR.lt _ rfl).2
  have hgn : ¬ g = w.heap.size := by omega
  have hgn1 : ¬ g = w.heap.size + 1 := by omega
  have HC : Hid (∀ (p : Nat) o o', p ≤ n → ((w.alloc o).alloc o').cell? ⟨g, p, none⟩ = some (.bool (h p))) := fun p o o' hp => (World.ownsRow.cellAt (own_below hR (below2 w o o')) p (by omega)).trans (cellsB_get _ _ _ (by omega))
  clear hR
  by_cases h0 : x = -1 ∧ y = -1
  · obtain ⟨rfl, rfl⟩ := h0
    go_enter Try.func19, Try.ntmps19
    go_wp2
    go_ret
    exact ⟨rfl, below2 w _ _⟩
  · by_cases h1 : 0 ≤ x ∧ x ≤ y ∧ y ≤ n
    · obtain ⟨a, rfl⟩ := Int.eq_ofNat_of_zero_le h1.1
      obtain ⟨c, rfl⟩ := Int.eq_ofNat_of_zero_le (by omega : 0 ≤ y)
      have ca := HC.out a
      have cc := HC.out c
      have hac : (a : Int) ≤ (c : Int) := h1.2.1
      have hcn : (c : Int) < (n : Int) + 1 := by omega
      have han : (a : Int) < (n : Int) + 1 := by omega
      have ca := fun o o' => HC.out a o o' (by omega)
      have cc := fun o o' => HC.out c o o' (by omega)
      have e1 : stB n h a c = (h a && h c) := by
        unfold stB
        rw [show decide ((a : Int) = -1) = false from by simp, show decide (0 ≤ (a : Int)) = true from by simp, show decide ((a : Int) ≤ (c : Int)) = true from by simpa using hac, show decide ((c : Int) ≤ (n : Int)) = true from by simp; omega]
        simp
      rw [e1]
      generalize h a = p at *
      generalize h c = q at *
      clear h1 h0 e1 HC
      go_enter Try.func19, Try.ntmps19
      cases p <;> go_wp2 <;> go_ret <;> exact ⟨rfl, below2 w _ _⟩
    · have e1 : stB n h x y = false := by
        unfold stB
        rw [Bool.eq_false_iff]
        intro h2
        simp only [Bool.or_eq_true, Bool.and_eq_true, decide_eq_true_eq] at h2
        omega
      rw [e1]
      clear e1 HC
      by_cases h2 : 0 ≤ x
      · by_cases h3 : x ≤ y
        · have h4 : ¬ y < (n : Int) + 1 := by omega
          have h5 : ¬ x = -1 := by omega
          go_enter Try.func19, Try.ntmps19
          go_wp2
          go_ret
          exact ⟨rfl, below2 w _ _⟩
        · have h5 : ¬ x = -1 := by omega
          have h6 : y < x := by omega
          go_enter Try.func19, Try.ntmps19
          go_wp2
          go_ret
          exact ⟨rfl, below2 w _ _⟩
      · have h6 : x < 0 := by omega
        go_enter Try.func19, Try.ntmps19
        go_wp2
        all_goals (go_ret; exact ⟨rfl, below2 w _ _⟩)
set_option maxHeartbeats 2000000 in
theorem edges_any (ao : Option Addr) (n cap : Nat) (b : List Int) (al : Option Addr) (nl cl : Nat) (l : List (List Sp)) (w : World) (hB : BS w ao n cap b) (hS : MS w al nl cl l) (hn : n ≤ 1048576) :
    Calls Try.prog 11 #[.slice ao n cap, .slice al nl cl] w fun e w' => e = .returned (.bool (edgB (items (fun i => b.getD i 0) n 0) n l)) ∧ Below w.heap.size w w' := by
  have EO := edgesOf_any ao n cap b w hB hn
  have HST : Hid (∀ x y, stB n (egB (items (fun i => b.getD i 0) n 0) n) x y = spB (items (fun i => b.getD i 0) n 0) n (x, y)) := fun x y => stB_eq _ n x y
  have hnc := hS.nc
  have hcm := hS.cm
  have HS : Hid (MS w al nl cl l) := hS
  clear hS hB
  generalize items (fun i => b.getD i 0) n 0 = L at *
  go_enter Try.func11, Try.ntmps11
  go_wp2_with fail
  refine EO.mono ?_
  rintro e w1 ⟨g, rfl, hR, hb1⟩
  have HR1 : Hid (RowIs w1 w.heap.size (.slice (some ⟨g, 0, none⟩) (n + 1) (n + 1)) (n + 1) (fun p => egB L n p)) := hR
  have HB1 : Hid (Below w.heap.size w w1) := hb1
  clear hR hb1 EO
  go_wp2
  go_loopw [14] (fun i wr => ∃ k : Nat, k ≤ nl ∧ i = .int .i64 k ∧ Hid (RowIs wr w.heap.size (.slice (some ⟨g, 0, none⟩) (n + 1) (n + 1)) (n + 1) (fun p => egB L n p)) ∧ Hid (Below w.heap.size w wr) ∧ Hid (edgB L n (l.drop k) = edgB L n l)) (fun i _ => nl - (intOf i).toNat)
  case atStart => exact ⟨0, Nat.zero_le _, rfl, HR1, HB1, rfl⟩
  case round =>
    clear HR1 HB1
    obtain ⟨k, hk, rfl, RK, BK, HK⟩ := hrel
    by_cases hlt : k < nl
    · obtain ⟨bb, off, rfl, hc⟩ := (HS.out.below BK.out).at_ (by omega)
      obtain ⟨a, m, c, c0, hs⟩ := hc k hlt
      clear hc
      have HK2 : Hid (((l.getD k []).all (spB L n) && edgB L n (l.drop (k + 1))) = edgB L n l) := by
        have := HK.out
        unfold edgB at this ⊢
        rw [all_drop l [] _ k (by rw [HS.out.len]; exact hlt)] at this
        exact this
      generalize l.getD k [] = ms at *
      have hmc := hs.nc
      have hmm := hs.cm
      have HSS : Hid (SS wr a m c ms) := hs
      clear hs HK
      have RA : Hid (RowIs (wr.alloc (.cells #[.slice a m c] 37)) w.heap.size (.slice (some ⟨g, 0, none⟩) (n + 1) (n + 1)) (n + 1) (fun p => egB L n p)) := RK.out.alloc _
      have BA : Hid (Below w.heap.size w (wr.alloc (.cells #[.slice a m c] 37))) := BK.out.alloc BK.out.size _
      have SA : Hid (SS (wr.alloc (.cells #[.slice a m c] 37)) a m c ms) := HSS.out.below ((Below.refl _ _).alloc (Nat.le_refl _) _)
      obtain ⟨b0, hb0⟩ : ∃ b0, wr.heap.size = b0 := ⟨_, rfl⟩
      have CA : Hid (b0 < (wr.alloc (.cells #[.slice a m c] 37)).heap.size) := by show _ < _; simp; omega
      clear RK BK HSS
      go_wp2
      generalize wr.alloc (.cells #[.slice a m c] 37) = W at *
      go_loopw [21] (fun i wq => ∃ j : Nat, j ≤ m ∧ i = .int .i64 j ∧ Hid (RowIs wq w.heap.size (.slice (some ⟨g, 0, none⟩) (n + 1) (n + 1)) (n + 1) (fun p => egB L n p)) ∧ Hid (Below w.heap.size w wq) ∧ Hid (Below W.heap.size W wq) ∧ Hid ((ms.drop j).all (spB L n) = ms.all (spB L n))) (fun i _ => m - (intOf i).toNat)
      case atStart => exact ⟨0, Nat.zero_le _, rfl, RA, BA, Below.refl _ _, rfl⟩
      case round =>
        obtain ⟨j, hj, rfl, RJ, BJ, BW, HJ⟩ := hrel
        clear RA BA
        by_cases hjl : j < m
        · obtain ⟨b2, off2, rfl, hc2⟩ := (SA.out.below BW.out).at_ (by omega)
          obtain ⟨q1, q2⟩ := hc2 j hjl
          have HJ2 : Hid ((spB L n (ms.getD j (0, 0)) && (ms.drop (j + 1)).all (spB L n)) = ms.all (spB L n)) := by
            have := HJ.out
            rw [all_drop ms (0, 0) _ j (by rw [SA.out.len]; exact hjl)] at this
            exact this
          clear hc2 HJ
          generalize ms.getD j (0, 0) = q at *
          obtain ⟨x, y⟩ := q
          simp only at q1 q2
          have ST := stands_any x y g w.heap.size n (egB L n) (wr.alloc (.cells #[.int .i64 x, .int .i64 y] 34)) hn (RJ.out.alloc _)
          rw [HST.out] at ST
          have hwz := BJ.out.size
          have RJ2 : Hid (RowIs (wr.alloc (.cells #[.int .i64 x, .int .i64 y] 34)) w.heap.size (.slice (some ⟨g, 0, none⟩) (n + 1) (n + 1)) (n + 1) (fun p => egB L n p)) := RJ.out.alloc _
          have BJ2 : Hid (Below w.heap.size w (wr.alloc (.cells #[.int .i64 x, .int .i64 y] 34))) := BJ.out.alloc BJ.out.size _
          have BW2 : Hid (Below W.heap.size W (wr.alloc (.cells #[.int .i64 x, .int .i64 y] 34))) := BW.out.alloc BW.out.size _
          clear RJ BJ BW
          cases hd : spB L n (x, y) with
          | false =>
            rw [hd] at ST
            have e9 : Hid (edgB L n l = false) := by have h1 := HK2.out; rw [← HJ2.out, hd, Bool.false_and, Bool.false_and] at h1; exact h1.symm
            go_wp2_with fail
            refine ST.mono ?_
            rintro e w2 ⟨rfl, hb2⟩
            have R9 : Hid (Below w.heap.size w w2) := BJ2.out.trans (hb2.mono BJ2.out.size)
            clear hb2 ST hd
            go_wp2
            go_ret
            exact ⟨ret_bool e9.out.symm, R9.out⟩
          | true =>
            rw [hd] at ST
            have HJ3 : Hid ((ms.drop (j + 1)).all (spB L n) = ms.all (spB L n)) := by have h1 := HJ2.out; rw [hd, Bool.true_and] at h1; exact h1
            go_wp2_with fail
            refine ST.mono ?_
            rintro e w2 ⟨rfl, hb2⟩
            have R9 : Hid (Below w.heap.size w w2) := BJ2.out.trans (hb2.mono BJ2.out.size)
            have R8 : Hid (Below W.heap.size W w2) := BW2.out.trans (hb2.mono BW2.out.size)
            have R7 : Hid (RowIs w2 w.heap.size (.slice (some ⟨g, 0, none⟩) (n + 1) (n + 1)) (n + 1) (fun p => egB L n p)) := own_below RJ2.out hb2
            clear hb2 ST hd
            go_wp2
            go_roundw
            case rel => exact ⟨j + 1, by omega, by go_num, R7, R9, R8, HJ3⟩
            case measure => simp [intOf]; omega
        · obtain rfl : j = m := by omega
          have HK3 : Hid (edgB L n (l.drop (k + 1)) = edgB L n l) := by
            have h1 := HK2.out
            rw [← HJ.out, List.drop_eq_nil_of_le (by rw [SA.out.len]; exact Nat.le_refl _)] at h1
            simp only [List.all_nil, Bool.true_and] at h1
            exact h1
          clear HJ
          go_wp2
          go_roundw
          case rel => exact ⟨k + 1, by omega, by go_num, RJ, BJ, HK3⟩
          case measure => simp [intOf]; omega
    · obtain rfl : k = nl := by omega
      have e1 : edgB L n l = true := by rw [← HK.out, List.drop_eq_nil_of_le (by rw [HS.out.len]; exact Nat.le_refl _)]; rfl
      clear RK HK
      go_wp2
      go_ret
      exact ⟨ret_bool e1.symm, BK.out⟩
end Go.Proofs.Ytpdkdfgcnhcmkaa.aud
