/- Texts that the proof leans on, one behind the other. -/
import Derived.Test.YtbdojobplhpnbaaGreatDoorBdClu2
import Derived.Test.YtbdojobplhpnbaaGreatDoorBdPrp9

section
/- rubricatorref10: one, picture, flags. -/
set_option linter.unusedVariables false
set_option linter.unusedSimpArgs false
namespace Go.Proofs.YtbdojobplhpnbaaGreatDoor.clu
open Go.RowKit Go.Maps
open Go.Proofs.YtbdojobplhpnbaaGreatDoor.lin Go.Proofs.YtbdojobplhpnbaaGreatDoor.prp

set_option maxHeartbeats 4000000 in
set_option maxRecDepth 1000000 in
theorem one_any (s : ByteArray) (B n : Nat) (L : List ByteArray) (w : World) (hl : L.length = n) (hc : ∀ (j : Nat) x, L[j]? = some x → w.cell? ⟨B, j, none⟩ = some (.string x)) (hn : n ≤ 10) :
    Calls Tryz.prog 40 #[.string s, .slice (some ⟨B, 0, none⟩) n n] w fun e w' => e = .returned (.bool (L.any (fun x => s.toList == x.toList))) ∧ w' = w := by
  have HC : Hid (∀ k, k < n → ∃ x, w.cell? ⟨B, k, none⟩ = some (.string x) ∧ (L.drop k).any (fun x => s.toList == x.toList) = ((s.toList == x.toList) || (L.drop (k + 1)).any (fun x => s.toList == x.toList))) := fun k hk => by
    have hk' : k < L.length := by omega
    refine ⟨L[k], hc k _ (List.getElem?_eq_getElem hk'), ?_⟩
    rw [List.drop_eq_getElem_cons hk', List.any_cons]
  have HE : Hid ((L.drop n).any (fun x => s.toList == x.toList) = false) := by unfold Hid; rw [← hl, List.drop_length]; rfl
  obtain ⟨R, hR⟩ : ∃ R, L.any (fun x => s.toList == x.toList) = R := ⟨_, rfl⟩
  have HR0 : Hid (R = (L.drop 0).any (fun x => s.toList == x.toList)) := hR.symm
  rw [hR]
  clear hc hl hR
  go_enter Tryz.func40, Tryz.ntmps40
  go_wp2
  go_loopw [9] (fun i wr => ∃ k : Nat, k ≤ n ∧ i = .int .i64 k ∧ Hid (R = (L.drop k).any (fun x => s.toList == x.toList)) ∧ wr = w) (fun i _ => n - (RowKit.intOf i).toNat)
  case atStart => exact ⟨0, Nat.zero_le _, rfl, HR0, rfl⟩
  case round =>
    clear HR0
    obtain ⟨k, hk, rfl, HR, rfl⟩ := hrel
    by_cases hlt : k < n
    · have hlt' : (k : Int) < (n : Int) := by omega
      obtain ⟨x, hx, hd⟩ := HC.out k hlt
      have HN : Hid (R = ((s.toList == x.toList) || (L.drop (k + 1)).any (fun x => s.toList == x.toList))) := HR.out.trans hd
      clear HR hd
      cases hq : (s.toList == x.toList) with
      | true =>
        have hR : R = true := by have := HN.out; rw [hq] at this; exact this
        clear HN
        subst hR
        go_wp2
        try rw [Exit.noGoto_ret]
        go_ret
        exact ⟨rfl, rfl⟩
      | false =>
        have HR2 : Hid (R = (L.drop (k + 1)).any (fun x => s.toList == x.toList)) := by have := HN.out; rw [hq] at this; exact this
        clear HN
        go_wp2
        go_roundw
        case rel => exact ⟨k + 1, by omega, by go_num, HR2, by trivial⟩
        case measure => simp [RowKit.intOf]; omega
    · obtain rfl : k = n := by omega
      have hlt' : ¬ (k : Int) < (k : Int) := by omega
      have hR : R = false := HR.out.trans HE.out
      clear HR
      subst hR
      go_wp2
      go_ret
      exact ⟨rfl, rfl⟩
/-- The string A is the name of the break number a. -/
def IsK (A : ByteArray) (a : Int) : Prop := ∀ (k : Nat), 0 < k → k ≤ 14 → (A.toList == nmK.getD k []) = (a == (k : Int))
theorem isK_cl (r : Int) : IsK (BA (clF r)) (kd r) := fun k h0 h1 => by
  rw [Lib.toList_data, BA_data]
  exact kS_beq _ k h0 h1 _ rfl
theorem IsK.eq {A : ByteArray} {a : Int} (h : IsK A a) (k : Nat) (h0 : 0 < k) (h1 : k ≤ 14) (c : List UInt8) (hc : nmK.getD k [] = c) : (A.toList == c) = (a == (k : Int)) := by rw [← hc]; exact h k h0 h1
theorem lit_list (c : List UInt8) : (ByteArray.mk c.toArray).toList = c := by rw [Lib.toList_data]
theorem one_al (A : ByteArray) (a : Int) (w : World) (h : IsK A a) : Calls Tryz.prog 40 #[.string A, .slice (some ⟨w.heap.size, 0, none⟩) 3 3] (w.alloc (.cells #[.string ⟨#[67, 111, 110, 116, 114, 111, 108]⟩, .string ⟨#[67, 82]⟩, .string ⟨#[76, 70]⟩] 9)) fun e w' => e = .returned (.bool (a == 3 || a == 1 || a == 2)) ∧ w' = w.alloc (.cells #[.string ⟨#[67, 111, 110, 116, 114, 111, 108]⟩, .string ⟨#[67, 82]⟩, .string ⟨#[76, 70]⟩] 9) := by
  have q := one_any A w.heap.size 3 [⟨#[67, 111, 110, 116, 114, 111, 108]⟩, ⟨#[67, 82]⟩, ⟨#[76, 70]⟩] (w.alloc (.cells #[.string ⟨#[67, 111, 110, 116, 114, 111, 108]⟩, .string ⟨#[67, 82]⟩, .string ⟨#[76, 70]⟩] 9)) rfl (fun j x hj => ?_) (by decide)
  · have e : ([⟨#[67, 111, 110, 116, 114, 111, 108]⟩, ⟨#[67, 82]⟩, ⟨#[76, 70]⟩] : List ByteArray).any (fun x => A.toList == x.toList) = (a == 3 || a == 1 || a == 2) := by
      rw [List.any_cons, List.any_cons, List.any_cons, List.any_nil, Bool.or_false, show (⟨#[67, 111, 110, 116, 114, 111, 108]⟩ : ByteArray).toList = [67, 111, 110, 116, 114, 111, 108] from lit_list [67, 111, 110, 116, 114, 111, 108], h.eq 3 (by decide) (by decide) [67, 111, 110, 116, 114, 111, 108] rfl, show (⟨#[67, 82]⟩ : ByteArray).toList = [67, 82] from lit_list [67, 82], h.eq 1 (by decide) (by decide) [67, 82] rfl, show (⟨#[76, 70]⟩ : ByteArray).toList = [76, 70] from lit_list [76, 70], h.eq 2 (by decide) (by decide) [76, 70] rfl]
      rw [Bool.or_assoc]; rfl
    rw [e] at q
    exact q
  · match j, hj with
    | 0, hj => simp at hj; subst hj; simp
    | 1, hj => simp at hj; subst hj; simp
    | 2, hj => simp at hj; subst hj; simp
    | k + 3, hj => simp at hj
theorem one_lv (A : ByteArray) (a : Int) (w : World) (h : IsK A a) : Calls Tryz.prog 40 #[.string A, .slice (some ⟨w.heap.size, 0, none⟩) 4 4] (w.alloc (.cells #[.string ⟨#[76]⟩, .string ⟨#[86]⟩, .string ⟨#[76, 86]⟩, .string ⟨#[76, 86, 84]⟩] 9)) fun e w' => e = .returned (.bool (a == 4 || a == 5 || a == 7 || a == 8)) ∧ w' = w.alloc (.cells #[.string ⟨#[76]⟩, .string ⟨#[86]⟩, .string ⟨#[76, 86]⟩, .string ⟨#[76, 86, 84]⟩] 9) := by
  have q := one_any A w.heap.size 4 [⟨#[76]⟩, ⟨#[86]⟩, ⟨#[76, 86]⟩, ⟨#[76, 86, 84]⟩] (w.alloc (.cells #[.string ⟨#[76]⟩, .string ⟨#[86]⟩, .string ⟨#[76, 86]⟩, .string ⟨#[76, 86, 84]⟩] 9)) rfl (fun j x hj => ?_) (by decide)
  · have e : ([⟨#[76]⟩, ⟨#[86]⟩, ⟨#[76, 86]⟩, ⟨#[76, 86, 84]⟩] : List ByteArray).any (fun x => A.toList == x.toList) = (a == 4 || a == 5 || a == 7 || a == 8) := by
      rw [List.any_cons, List.any_cons, List.any_cons, List.any_cons, List.any_nil, Bool.or_false, show (⟨#[76]⟩ : ByteArray).toList = [76] from lit_list [76], h.eq 4 (by decide) (by decide) [76] rfl, show (⟨#[86]⟩ : ByteArray).toList = [86] from lit_list [86], h.eq 5 (by decide) (by decide) [86] rfl, show (⟨#[76, 86]⟩ : ByteArray).toList = [76, 86] from lit_list [76, 86], h.eq 7 (by decide) (by decide) [76, 86] rfl, show (⟨#[76, 86, 84]⟩ : ByteArray).toList = [76, 86, 84] from lit_list [76, 86, 84], h.eq 8 (by decide) (by decide) [76, 86, 84] rfl]
      rw [Bool.or_assoc, Bool.or_assoc]; rfl
    rw [e] at q
    exact q
  · match j, hj with
    | 0, hj => simp at hj; subst hj; simp
    | 1, hj => simp at hj; subst hj; simp
    | 2, hj => simp at hj; subst hj; simp
    | 3, hj => simp at hj; subst hj; simp
    | k + 4, hj => simp at hj
theorem one_a2 (A : ByteArray) (a : Int) (w : World) (h : IsK A a) : Calls Tryz.prog 40 #[.string A, .slice (some ⟨w.heap.size, 0, none⟩) 2 2] (w.alloc (.cells #[.string ⟨#[76, 86]⟩, .string ⟨#[86]⟩] 9)) fun e w' => e = .returned (.bool (a == 7 || a == 5)) ∧ w' = w.alloc (.cells #[.string ⟨#[76, 86]⟩, .string ⟨#[86]⟩] 9) := by
  have q := one_any A w.heap.size 2 [⟨#[76, 86]⟩, ⟨#[86]⟩] (w.alloc (.cells #[.string ⟨#[76, 86]⟩, .string ⟨#[86]⟩] 9)) rfl (fun j x hj => ?_) (by decide)
  · have e : ([⟨#[76, 86]⟩, ⟨#[86]⟩] : List ByteArray).any (fun x => A.toList == x.toList) = (a == 7 || a == 5) := by
      rw [List.any_cons, List.any_cons, List.any_nil, Bool.or_false, show (⟨#[76, 86]⟩ : ByteArray).toList = [76, 86] from lit_list [76, 86], h.eq 7 (by decide) (by decide) [76, 86] rfl, show (⟨#[86]⟩ : ByteArray).toList = [86] from lit_list [86], h.eq 5 (by decide) (by decide) [86] rfl]
      rfl
    rw [e] at q
    exact q
  · match j, hj with
    | 0, hj => simp at hj; subst hj; simp
    | 1, hj => simp at hj; subst hj; simp
    | k + 2, hj => simp at hj
theorem one_b2 (A : ByteArray) (a : Int) (w : World) (h : IsK A a) : Calls Tryz.prog 40 #[.string A, .slice (some ⟨w.heap.size, 0, none⟩) 2 2] (w.alloc (.cells #[.string ⟨#[86]⟩, .string ⟨#[84]⟩] 9)) fun e w' => e = .returned (.bool (a == 5 || a == 6)) ∧ w' = w.alloc (.cells #[.string ⟨#[86]⟩, .string ⟨#[84]⟩] 9) := by
  have q := one_any A w.heap.size 2 [⟨#[86]⟩, ⟨#[84]⟩] (w.alloc (.cells #[.string ⟨#[86]⟩, .string ⟨#[84]⟩] 9)) rfl (fun j x hj => ?_) (by decide)
  · have e : ([⟨#[86]⟩, ⟨#[84]⟩] : List ByteArray).any (fun x => A.toList == x.toList) = (a == 5 || a == 6) := by
      rw [List.any_cons, List.any_cons, List.any_nil, Bool.or_false, show (⟨#[86]⟩ : ByteArray).toList = [86] from lit_list [86], h.eq 5 (by decide) (by decide) [86] rfl, show (⟨#[84]⟩ : ByteArray).toList = [84] from lit_list [84], h.eq 6 (by decide) (by decide) [84] rfl]
      rfl
    rw [e] at q
    exact q
  · match j, hj with
    | 0, hj => simp at hj; subst hj; simp
    | 1, hj => simp at hj; subst hj; simp
    | k + 2, hj => simp at hj
theorem one_a3 (A : ByteArray) (a : Int) (w : World) (h : IsK A a) : Calls Tryz.prog 40 #[.string A, .slice (some ⟨w.heap.size, 0, none⟩) 2 2] (w.alloc (.cells #[.string ⟨#[76, 86, 84]⟩, .string ⟨#[84]⟩] 9)) fun e w' => e = .returned (.bool (a == 8 || a == 6)) ∧ w' = w.alloc (.cells #[.string ⟨#[76, 86, 84]⟩, .string ⟨#[84]⟩] 9) := by
  have q := one_any A w.heap.size 2 [⟨#[76, 86, 84]⟩, ⟨#[84]⟩] (w.alloc (.cells #[.string ⟨#[76, 86, 84]⟩, .string ⟨#[84]⟩] 9)) rfl (fun j x hj => ?_) (by decide)
  · have e : ([⟨#[76, 86, 84]⟩, ⟨#[84]⟩] : List ByteArray).any (fun x => A.toList == x.toList) = (a == 8 || a == 6) := by
      rw [List.any_cons, List.any_cons, List.any_nil, Bool.or_false, show (⟨#[76, 86, 84]⟩ : ByteArray).toList = [76, 86, 84] from lit_list [76, 86, 84], h.eq 8 (by decide) (by decide) [76, 86, 84] rfl, show (⟨#[84]⟩ : ByteArray).toList = [84] from lit_list [84], h.eq 6 (by decide) (by decide) [84] rfl]
      rfl
    rw [e] at q
    exact q
  · match j, hj with
    | 0, hj => simp at hj; subst hj; simp
    | 1, hj => simp at hj; subst hj; simp
    | k + 2, hj => simp at hj
theorem one_tr (A : ByteArray) (a : Int) (w : World) (h : IsK A a) : Calls Tryz.prog 40 #[.string A, .slice (some ⟨w.heap.size, 0, none⟩) 3 3] (w.alloc (.cells #[.string ⟨#[69, 120, 116, 101, 110, 100]⟩, .string ⟨#[90, 87, 74]⟩, .string ⟨#[83, 112, 97, 99, 105, 110, 103, 77, 97, 114, 107]⟩] 9)) fun e w' => e = .returned (.bool (a == 9 || a == 10 || a == 11)) ∧ w' = w.alloc (.cells #[.string ⟨#[69, 120, 116, 101, 110, 100]⟩, .string ⟨#[90, 87, 74]⟩, .string ⟨#[83, 112, 97, 99, 105, 110, 103, 77, 97, 114, 107]⟩] 9) := by
  have q := one_any A w.heap.size 3 [⟨#[69, 120, 116, 101, 110, 100]⟩, ⟨#[90, 87, 74]⟩, ⟨#[83, 112, 97, 99, 105, 110, 103, 77, 97, 114, 107]⟩] (w.alloc (.cells #[.string ⟨#[69, 120, 116, 101, 110, 100]⟩, .string ⟨#[90, 87, 74]⟩, .string ⟨#[83, 112, 97, 99, 105, 110, 103, 77, 97, 114, 107]⟩] 9)) rfl (fun j x hj => ?_) (by decide)
  · have e : ([⟨#[69, 120, 116, 101, 110, 100]⟩, ⟨#[90, 87, 74]⟩, ⟨#[83, 112, 97, 99, 105, 110, 103, 77, 97, 114, 107]⟩] : List ByteArray).any (fun x => A.toList == x.toList) = (a == 9 || a == 10 || a == 11) := by
      rw [List.any_cons, List.any_cons, List.any_cons, List.any_nil, Bool.or_false, show (⟨#[69, 120, 116, 101, 110, 100]⟩ : ByteArray).toList = [69, 120, 116, 101, 110, 100] from lit_list [69, 120, 116, 101, 110, 100], h.eq 9 (by decide) (by decide) [69, 120, 116, 101, 110, 100] rfl, show (⟨#[90, 87, 74]⟩ : ByteArray).toList = [90, 87, 74] from lit_list [90, 87, 74], h.eq 10 (by decide) (by decide) [90, 87, 74] rfl, show (⟨#[83, 112, 97, 99, 105, 110, 103, 77, 97, 114, 107]⟩ : ByteArray).toList = [83, 112, 97, 99, 105, 110, 103, 77, 97, 114, 107] from lit_list [83, 112, 97, 99, 105, 110, 103, 77, 97, 114, 107], h.eq 11 (by decide) (by decide) [83, 112, 97, 99, 105, 110, 103, 77, 97, 114, 107] rfl]
      rw [Bool.or_assoc]; rfl
    rw [e] at q
    exact q
  · match j, hj with
    | 0, hj => simp at hj; subst hj; simp
    | 1, hj => simp at hj; subst hj; simp
    | 2, hj => simp at hj; subst hj; simp
    | k + 3, hj => simp at hj
set_option maxHeartbeats 4000000 in
set_option maxRecDepth 1000000 in
theorem rpicture_t (t : Nat) (ao : Option Addr) (N cap m n : Nat) (l : List Int) (x : Int) (w : World) (h : RTabs w t) (hv : Txt w ao N cap l) (hn : n = m + 1) (hN : n ≤ N) (hx : l[m]? = some x) :
    Calls Tryz.prog 41 #[.pointer (some ⟨t, 0, none⟩), .slice ao N cap, .int .i64 (n : Int)] w fun e w' => e = .returned (.bool (kd x == 10 && endsPic (back l m))) ∧ Below w.heap.size w w' := by
  obtain ⟨hl, hat⟩ := iv_cells hv.iv
  obtain ⟨x', b, o, rfl, cx, hx'⟩ := hat m (by omega)
  obtain rfl : x = x' := by rw [hx] at hx'; injection hx'
  have hlen := hv.len
  have HAT : Hid (∀ k, k < N → ∃ x, w.cell? ⟨b, o + k, none⟩ = some (.int .i64 x) ∧ l[k]? = some x ∧ okI x) := fun k hk => by
    obtain ⟨x, b', o', e, h1, h2⟩ := hat k hk
    injection e with e
    injection e with e1 e2
    subst e1 e2
    exact ⟨x, h1, h2, hv.ok x (List.mem_of_getElem? h2)⟩
  have HCL : Hid (∀ r W, okI r → Below w.heap.size w W → Calls Tryz.prog 39 #[.pointer (some ⟨t, 0, none⟩), .int .i64 r] W fun e w' => (∃ A, e = .returned (.string A) ∧ IsK A (kd r)) ∧ Below W.heap.size W w') := fun r W hr hb => (rcluster_t t r W (h.below hb) hr).mono (fun e w' hh => ⟨⟨_, hh.1, isK_cl r⟩, hh.2⟩)
  have HBK : Hid (∀ (k : Nat) (x : Int), l[k]? = some x → endsPic (back l (k + 1)) = if kd x = 9 then endsPic (back l k) else kd x == 13) := fun k x h => by rw [back_succ h]; rfl
  have HB0 : Hid (endsPic (back l 0) = false) := rfl
  have hxo := hv.ok x (List.mem_of_getElem? hx)
  obtain ⟨P, hP⟩ : ∃ P, endsPic (back l m) = P := ⟨_, rfl⟩
  have HP0 : Hid (endsPic (back l m) = P) := hP
  rw [hP]
  have w0 : IntKind.i64.wrap ((n : Int) - 2) = (m : Int) - 1 := by rw [IntKind.wrap_i64]; omega
  have w1 : IntKind.i64.wrap ((n : Int) - 1) = (m : Int) := by rw [IntKind.wrap_i64]; omega
  have b1 : (0 : Int) ≤ (m : Int) := by omega
  have b2 : (m : Int) < (N : Int) := by omega
  have HM : Hid (m < N) := by show _ < _; omega
  have C := HCL.out x w hxo (Below.refl _ _)
  clear h hv hat hl hP hx hx' hn hN hxo
  generalize kd x = a at *
  cases ha : (a == 10) with
  | false =>
    rw [Bool.false_and]
    go_enter Tryz.func41, Tryz.ntmps41
    go_wp2_with fail
    refine C.mono ?_
    rintro e w2 ⟨⟨A, rfl, hA⟩, hb⟩
    clear C
    have q1 := hA.eq 10 (by decide) (by decide) [90, 87, 74] rfl
    rw [show ((10 : Nat) : Int) = 10 from rfl, ha] at q1
    clear hA ha
    go_wp2
    go_ret
    exact ⟨rfl, hb⟩
  | true =>
    rw [Bool.true_and]
    go_enter Tryz.func41, Tryz.ntmps41
    go_wp2_with fail
    refine C.mono ?_
    rintro e w2 ⟨⟨A, rfl, hA⟩, hb⟩
    clear C
    have q1 := hA.eq 10 (by decide) (by decide) [90, 87, 74] rfl
    rw [show ((10 : Nat) : Int) = 10 from rfl, ha] at q1
    have HB2 : Hid (Below w.heap.size w w2) := hb
    clear hA ha hb cx
    go_wp2
    go_loopw [7] (fun i wr => ∃ j : Nat, j ≤ m ∧ i = .int .i64 ((j : Int) - 1) ∧ Hid (endsPic (back l j) = P) ∧ Hid (Below w.heap.size w wr)) (fun i _ => (RowKit.intOf i + 1).toNat)
    case atStart => exact ⟨m, Nat.le_refl _, rfl, HP0, HB2⟩
    case round =>
      clear HP0 HB2 q1
      obtain ⟨j, hj, rfl, HR, HB⟩ := hrel
      rcases Nat.eq_zero_or_pos j with h0 | h0
      · subst h0
        have hR : P = false := HR.out.symm.trans HB0.out
        subst hR
        have hge : ¬ (0 : Int) ≤ ((0 : Nat) : Int) - 1 := by omega
        clear HR
        go_wp2
        go_ret
        exact ⟨rfl, HB.out⟩
      · obtain ⟨k, rfl⟩ : ∃ k, j = k + 1 := ⟨j - 1, by omega⟩
        have ej : ((k + 1 : Nat) : Int) - 1 = (k : Int) := by omega
        rw [ej]
        obtain ⟨y, hc0, hy, hyo⟩ := HAT.out k (by have := HM.out; omega)
        have hc := cell_below HB.out hc0
        have HN : Hid ((if kd y = 9 then endsPic (back l k) else kd y == 13) = P) := (HBK.out k y hy).symm.trans HR.out
        have C := HCL.out y wr hyo HB.out
        have HC2 : Hid (∀ W, Below w.heap.size w W → Calls Tryz.prog 39 #[.pointer (some ⟨t, 0, none⟩), .int .i64 y] W fun e w' => (∃ A, e = .returned (.string A) ∧ IsK A (kd y)) ∧ Below W.heap.size W w') := fun W hb => HCL.out y W hyo hb
        have hk0 : (0 : Int) ≤ (k : Int) := by omega
        have hkn : (k : Int) < (N : Int) := by have := HM.out; omega
        clear hy HR ej h0 hyo
        generalize kd y = q at *
        go_wp2_with fail
        refine C.mono ?_
        rintro e w3 ⟨⟨A3, rfl, hA⟩, hb⟩
        clear C
        have HB3 : Hid (Below w.heap.size w w3) := HB.out.trans (hb.mono HB.out.size)
        have hc3 := cell_below HB3.out hc0
        have q9 := hA.eq 9 (by decide) (by decide) [69, 120, 116, 101, 110, 100] rfl
        rw [show ((9 : Nat) : Int) = 9 from rfl] at q9
        have wk : IntKind.i64.wrap ((k : Int) - 1) = (k : Int) - 1 := by rw [IntKind.wrap_i64]; omega
        clear HB hb hc hA
        by_cases hq : q = 9
        · have HR2 : Hid (endsPic (back l k) = P) := by have := HN.out; rw [if_pos hq] at this; exact this
          rw [show (q == 9) = true from by rw [hq]; rfl] at q9
          clear HN hq HC2
          go_wp2
          exact ⟨⟨k, by omega, rfl, HR2, HB3⟩, by simp [RowKit.intOf]⟩
        · have hR : (q == 13) = P := by have := HN.out; rw [if_neg hq] at this; exact this
          rw [show (q == 9) = false from beq_eq_false_iff_ne.2 hq] at q9
          have HRR : Hid ((q == 13) = P) := hR
          clear HN hq hR
          have C := HC2.out w3 HB3.out
          go_wp2_with fail
          refine C.mono ?_
          rintro e w4 ⟨⟨A4, rfl, hA⟩, hb⟩
          clear C
          have HB4 : Hid (Below w.heap.size w w4) := HB3.out.trans (hb.mono HB3.out.size)
          have q13 := hA.eq 13 (by decide) (by decide) [80, 105, 99, 116, 111, 103, 114, 97, 112, 104, 105, 99] rfl
          rw [show ((13 : Nat) : Int) = 13 from rfl, HRR.out] at q13
          clear hA hb HRR
          go_wp2
          go_ret
          exact ⟨by first | rfl | (rw [q13]; rfl), HB4.out⟩
set_option maxHeartbeats 4000000 in
set_option maxRecDepth 1000000 in
theorem rflags_t (t : Nat) (ao : Option Addr) (N cap n : Nat) (l : List Int) (w : World) (h : RTabs w t) (hv : Txt w ao N cap l) (hN : n ≤ N) :
    Calls Tryz.prog 42 #[.pointer (some ⟨t, 0, none⟩), .slice ao N cap, .int .i64 (n : Int)] w fun e w' => e = .returned (.int .i64 ((flagsN (back l n) : Nat) : Int)) ∧ Below w.heap.size w w' := by
  obtain ⟨hl, hat⟩ := iv_cells hv.iv
  have hlen := hv.len
  have HAT : Hid (∀ k, k < N → ∃ x b o, ao = some ⟨b, o, none⟩ ∧ w.cell? ⟨b, o + k, none⟩ = some (.int .i64 x) ∧ l[k]? = some x ∧ okI x) := fun k hk => by
    obtain ⟨x, b, o, e, h1, h2⟩ := hat k hk
    exact ⟨x, b, o, e, h1, h2, hv.ok x (List.mem_of_getElem? h2)⟩
  have HCL : Hid (∀ r W, okI r → Below w.heap.size w W → Calls Tryz.prog 39 #[.pointer (some ⟨t, 0, none⟩), .int .i64 r] W fun e w' => (∃ A, e = .returned (.string A) ∧ IsK A (kd r)) ∧ Below W.heap.size W w') := fun r W hr hb => (rcluster_t t r W (h.below hb) hr).mono (fun e w' hh => ⟨⟨_, hh.1, isK_cl r⟩, hh.2⟩)
  have HBK : Hid (∀ (k : Nat) (x : Int), l[k]? = some x → flagsN (back l (k + 1)) = if kd x = 14 then flagsN (back l k) + 1 else 0) := fun k x h => by rw [back_succ h]; rfl
  have HB0 : Hid (flagsN (back l 0) = 0) := rfl
  obtain ⟨R, hR⟩ : ∃ R, flagsN (back l n) = R := ⟨_, rfl⟩
  have HR0 : Hid (R = 0 + flagsN (back l n)) := by unfold Hid; omega
  have HNN : Hid (n ≤ N) := hN
  rw [hR]
  clear h hv hat hl hR hN
  go_enter Tryz.func42, Tryz.ntmps42
  go_wp2
  go_loopw [7] (fun i wr => ∃ j m : Nat, j + m = n ∧ i = .int .i64 (j : Int) ∧ Hid (R = j + flagsN (back l m)) ∧ Hid (Below w.heap.size w wr)) (fun i _ => n - (RowKit.intOf i).toNat)
  case atStart => exact ⟨0, n, by omega, rfl, HR0, Below.refl _ _⟩
  case round =>
    clear HR0
    obtain ⟨j, m, hm, rfl, HR, HB⟩ := hrel
    have hNN := HNN.out
    rcases Nat.eq_zero_or_pos m with h0 | h0
    · subst h0
      have hR : R = j := by have := HR.out; rw [HB0.out] at this; omega
      have e0 : IntKind.i64.wrap ((n : Int) - (j : Int)) = 0 := by rw [IntKind.wrap_i64]; omega
      clear HR
      subst hR
      go_wp2
      go_ret
      exact ⟨rfl, HB.out⟩
    · obtain ⟨k, rfl⟩ : ∃ k, m = k + 1 := ⟨m - 1, by omega⟩
      obtain ⟨x, b, o, rfl, hc0, hx, hxo⟩ := HAT.out k (by omega)
      have hc := cell_below HB.out hc0
      have HN : Hid (R = j + if kd x = 14 then flagsN (back l k) + 1 else 0) := by have := HR.out; rw [HBK.out k x hx] at this; exact this
      have C := HCL.out x wr hxo HB.out
      have e0 : IntKind.i64.wrap ((n : Int) - (j : Int)) = ((k + 1 : Nat) : Int) := by rw [IntKind.wrap_i64]; omega
      have e1 : (0 : Int) < ((k + 1 : Nat) : Int) := by omega
      have e2 : IntKind.i64.wrap (((k + 1 : Nat) : Int) - 1) = (k : Int) := by rw [IntKind.wrap_i64]; omega
      have e4 : IntKind.i64.wrap (k : Int) = (k : Int) := by rw [IntKind.wrap_i64]; omega
      have hk0 : (0 : Int) ≤ (k : Int) := by omega
      have hkn : (k : Int) < (N : Int) := by omega
      clear hc0 hx HR h0 hxo
      obtain ⟨K1, hK1⟩ : ∃ K1 : Int, ((k + 1 : Nat) : Int) = K1 := ⟨_, rfl⟩
      rw [hK1] at e0 e1 e2
      clear hK1
      generalize kd x = q at *
      go_wp2_with fail
      refine C.mono ?_
      rintro e w2 ⟨⟨A, rfl, hA⟩, hb⟩
      clear C
      have HB1 : Hid (Below w.heap.size w w2) := HB.out.trans (hb.mono HB.out.size)
      have q14 := hA.eq 14 (by decide) (by decide) [70, 108, 97, 103] rfl
      rw [show ((14 : Nat) : Int) = 14 from rfl] at q14
      clear HB hb hc hA
      by_cases hq : q = 14
      · have HR2 : Hid (R = (j + 1) + flagsN (back l k)) := by have := HN.out; rw [if_pos hq] at this; unfold Hid; omega
        rw [show (q == 14) = true from by rw [hq]; rfl] at q14
        clear HN hq
        go_wp2
        exact ⟨⟨j + 1, k, by omega, by go_num, HR2, HB1⟩, by simp [RowKit.intOf]; omega⟩
      · have hR : R = j := by have := HN.out; rw [if_neg hq] at this; exact this
        rw [show (q == 14) = false from beq_eq_false_iff_ne.2 hq] at q14
        clear HN hq
        subst hR
        go_wp2
        go_ret
        exact ⟨rfl, HB1.out⟩
end Go.Proofs.YtbdojobplhpnbaaGreatDoor.clu
end
