/- Texts that the proof leans on, one behind the other. -/
import Derived.Test.YtcmhkfiijdomiaaGreatDoorBdWrd2
import Derived.Test.YtcmhkfiijdomiaaGreatDoorBdWrd5
import Derived.Test.YtcmhkfiijdomiaaGreatDoorBdPrp9

section
/- rubricatorref11: one, passed, letter, quote, ahead, word, before, behind, flags. -/
set_option linter.unusedVariables false
set_option linter.unusedSimpArgs false
namespace Go.Proofs.YtcmhkfiijdomiaaGreatDoor.wrd
open Go.RowKit Go.Maps
open Go.Proofs.YtcmhkfiijdomiaaGreatDoor.lin Go.Proofs.YtcmhkfiijdomiaaGreatDoor.prp

set_option maxHeartbeats 4000000 in
set_option maxRecDepth 1000000 in
theorem one_any (s : ByteArray) (B n : Nat) (L : List ByteArray) (w : World) (hl : L.length = n) (hc : ∀ (j : Nat) x, L[j]? = some x → w.cell? ⟨B, j, none⟩ = some (.string x)) (hn : n ≤ 10) :
    Calls Tryz.prog 42 #[.string s, .slice (some ⟨B, 0, none⟩) n n] w fun e w' => e = .returned (.bool (L.any (fun x => s.toList == x.toList))) ∧ w' = w := by
  have HC : Hid (∀ k, k < n → ∃ x, w.cell? ⟨B, k, none⟩ = some (.string x) ∧ (L.drop k).any (fun x => s.toList == x.toList) = ((s.toList == x.toList) || (L.drop (k + 1)).any (fun x => s.toList == x.toList))) := fun k hk => by
    have hk' : k < L.length := by omega
    refine ⟨L[k], hc k _ (List.getElem?_eq_getElem hk'), ?_⟩
    rw [List.drop_eq_getElem_cons hk', List.any_cons]
  have HE : Hid ((L.drop n).any (fun x => s.toList == x.toList) = false) := by unfold Hid; rw [← hl, List.drop_length]; rfl
  obtain ⟨R, hR⟩ : ∃ R, L.any (fun x => s.toList == x.toList) = R := ⟨_, rfl⟩
  have HR0 : Hid (R = (L.drop 0).any (fun x => s.toList == x.toList)) := hR.symm
  rw [hR]
  clear hc hl hR
  go_enter Tryz.func42, Tryz.ntmps42
  go_wp2
  go_loopw [9] (fun i wr => ∃ k : Nat, k ≤ n ∧ i = .int .i64 k ∧ Hid (R = (L.drop k).any (fun x => s.toList == x.toList)) ∧ wr = w) (fun i _ => n - (RowKit.intOf i).toNat)
  case atStart => exact ⟨0, Nat.zero_le _, rfl, HR0, rfl⟩
  case round =>
    clear HR0
    obtain ⟨k, hk, rfl, HR, rfl⟩ := hrel
    by_cases hlt : k < n
    · have hlt' : (k : Int) < (n : Int) := by omega
      obtain ⟨x, hx, hd⟩ := HC.out k hlt
      have HN : Hid (R = ((s.toList == x.toList) || (L.drop (k + 1)).any (fun x => s.toList == x.toList))) := HR.out.trans hd
      clear HR hd
      cases hq : (s.toList == x.toList) with
      | true =>
        have hR : R = true := by have := HN.out; rw [hq] at this; exact this
        clear HN
        subst hR
        go_wp2
        try rw [Exit.noGoto_ret]
        go_ret
        exact ⟨rfl, rfl⟩
      | false =>
        have HR2 : Hid (R = (L.drop (k + 1)).any (fun x => s.toList == x.toList)) := by have := HN.out; rw [hq] at this; exact this
        clear HN
        go_wp2
        go_roundw
        case rel => exact ⟨k + 1, by omega, by go_num, HR2, by trivial⟩
        case measure => simp [RowKit.intOf]; omega
    · obtain rfl : k = n := by omega
      have hlt' : ¬ (k : Int) < (k : Int) := by omega
      have hR : R = false := HR.out.trans HE.out
      clear HR
      subst hR
      go_wp2
      go_ret
      exact ⟨rfl, rfl⟩
/-- The string A is the name of the break number a. -/
def IsW (A : ByteArray) (a : Int) : Prop := ∀ (k : Nat), 0 < k → k ≤ 19 → (A.toList == nmW.getD k []) = (a == (k : Int))
theorem isW_wor (r : Int) : IsW (BA (sF [] worL r)) (kw r) := fun k h0 h1 => by
  rw [Lib.toList_data, BA_data]
  exact wS_beq _ k h0 h1 _ rfl
theorem isW_none : IsW ⟨#[]⟩ 0 := fun k h0 h1 => by
  rw [show (⟨#[]⟩ : ByteArray).toList = [] from by rw [Lib.toList_data]]
  exact wS_beq [] k h0 h1 _ rfl
theorem IsW.eq {A : ByteArray} {a : Int} (h : IsW A a) (k : Nat) (h0 : 0 < k) (h1 : k ≤ 19) (c : List UInt8) (hc : nmW.getD k [] = c) : (A.toList == c) = (a == (k : Int)) := by rw [← hc]; exact h k h0 h1
theorem lit_list (c : List UInt8) : (ByteArray.mk c.toArray).toList = c := by rw [Lib.toList_data]
theorem IsW.n1 {A : ByteArray} {a : Int} (h : IsW A a) : (A.toList == [67, 82]) = (a == 1) := h.eq 1 (by decide) (by decide) [67, 82] rfl
theorem IsW.n2 {A : ByteArray} {a : Int} (h : IsW A a) : (A.toList == [76, 70]) = (a == 2) := h.eq 2 (by decide) (by decide) [76, 70] rfl
theorem IsW.n3 {A : ByteArray} {a : Int} (h : IsW A a) : (A.toList == [78, 101, 119, 108, 105, 110, 101]) = (a == 3) := h.eq 3 (by decide) (by decide) [78, 101, 119, 108, 105, 110, 101] rfl
theorem IsW.n4 {A : ByteArray} {a : Int} (h : IsW A a) : (A.toList == [90, 87, 74]) = (a == 4) := h.eq 4 (by decide) (by decide) [90, 87, 74] rfl
theorem IsW.n5 {A : ByteArray} {a : Int} (h : IsW A a) : (A.toList == [69, 120, 116, 101, 110, 100]) = (a == 5) := h.eq 5 (by decide) (by decide) [69, 120, 116, 101, 110, 100] rfl
theorem IsW.n6 {A : ByteArray} {a : Int} (h : IsW A a) : (A.toList == [70, 111, 114, 109, 97, 116]) = (a == 6) := h.eq 6 (by decide) (by decide) [70, 111, 114, 109, 97, 116] rfl
theorem IsW.n7 {A : ByteArray} {a : Int} (h : IsW A a) : (A.toList == [80, 105, 99, 116, 111, 103, 114, 97, 112, 104, 105, 99]) = (a == 7) := h.eq 7 (by decide) (by decide) [80, 105, 99, 116, 111, 103, 114, 97, 112, 104, 105, 99] rfl
theorem IsW.n8 {A : ByteArray} {a : Int} (h : IsW A a) : (A.toList == [83, 112, 97, 99, 101]) = (a == 8) := h.eq 8 (by decide) (by decide) [83, 112, 97, 99, 101] rfl
theorem IsW.n9 {A : ByteArray} {a : Int} (h : IsW A a) : (A.toList == [76, 101, 116, 116, 101, 114]) = (a == 9) := h.eq 9 (by decide) (by decide) [76, 101, 116, 116, 101, 114] rfl
theorem IsW.n10 {A : ByteArray} {a : Int} (h : IsW A a) : (A.toList == [72, 101, 98, 114, 101, 119]) = (a == 10) := h.eq 10 (by decide) (by decide) [72, 101, 98, 114, 101, 119] rfl
theorem IsW.n11 {A : ByteArray} {a : Int} (h : IsW A a) : (A.toList == [83, 105, 110, 103, 108, 101, 81, 117, 111, 116, 101]) = (a == 11) := h.eq 11 (by decide) (by decide) [83, 105, 110, 103, 108, 101, 81, 117, 111, 116, 101] rfl
theorem IsW.n12 {A : ByteArray} {a : Int} (h : IsW A a) : (A.toList == [68, 111, 117, 98, 108, 101, 81, 117, 111, 116, 101]) = (a == 12) := h.eq 12 (by decide) (by decide) [68, 111, 117, 98, 108, 101, 81, 117, 111, 116, 101] rfl
theorem IsW.n13 {A : ByteArray} {a : Int} (h : IsW A a) : (A.toList == [77, 105, 100, 76, 101, 116, 116, 101, 114]) = (a == 13) := h.eq 13 (by decide) (by decide) [77, 105, 100, 76, 101, 116, 116, 101, 114] rfl
theorem IsW.n14 {A : ByteArray} {a : Int} (h : IsW A a) : (A.toList == [77, 105, 100, 78, 117, 109]) = (a == 14) := h.eq 14 (by decide) (by decide) [77, 105, 100, 78, 117, 109] rfl
theorem IsW.n15 {A : ByteArray} {a : Int} (h : IsW A a) : (A.toList == [77, 105, 100, 78, 117, 109, 76, 101, 116]) = (a == 15) := h.eq 15 (by decide) (by decide) [77, 105, 100, 78, 117, 109, 76, 101, 116] rfl
theorem IsW.n16 {A : ByteArray} {a : Int} (h : IsW A a) : (A.toList == [78, 117, 109, 101, 114, 105, 99]) = (a == 16) := h.eq 16 (by decide) (by decide) [78, 117, 109, 101, 114, 105, 99] rfl
theorem IsW.n17 {A : ByteArray} {a : Int} (h : IsW A a) : (A.toList == [75, 97, 116, 97, 107, 97, 110, 97]) = (a == 17) := h.eq 17 (by decide) (by decide) [75, 97, 116, 97, 107, 97, 110, 97] rfl
theorem IsW.n18 {A : ByteArray} {a : Int} (h : IsW A a) : (A.toList == [74, 111, 105, 110, 101, 114]) = (a == 18) := h.eq 18 (by decide) (by decide) [74, 111, 105, 110, 101, 114] rfl
theorem IsW.n19 {A : ByteArray} {a : Int} (h : IsW A a) : (A.toList == [70, 108, 97, 103]) = (a == 19) := h.eq 19 (by decide) (by decide) [70, 108, 97, 103] rfl
theorem one_pa (A : ByteArray) (a : Int) (w : World) (h : IsW A a) : Calls Tryz.prog 42 #[.string A, .slice (some ⟨w.heap.size, 0, none⟩) 3 3] (w.alloc (.cells #[.string ⟨#[69, 120, 116, 101, 110, 100]⟩, .string ⟨#[70, 111, 114, 109, 97, 116]⟩, .string ⟨#[90, 87, 74]⟩] 9)) fun e w' => e = .returned (.bool (a == 5 || a == 6 || a == 4)) ∧ w' = w.alloc (.cells #[.string ⟨#[69, 120, 116, 101, 110, 100]⟩, .string ⟨#[70, 111, 114, 109, 97, 116]⟩, .string ⟨#[90, 87, 74]⟩] 9) := by
  have q := one_any A w.heap.size 3 [⟨#[69, 120, 116, 101, 110, 100]⟩, ⟨#[70, 111, 114, 109, 97, 116]⟩, ⟨#[90, 87, 74]⟩] (w.alloc (.cells #[.string ⟨#[69, 120, 116, 101, 110, 100]⟩, .string ⟨#[70, 111, 114, 109, 97, 116]⟩, .string ⟨#[90, 87, 74]⟩] 9)) rfl (fun j x hj => ?_) (by decide)
  · have e : ([⟨#[69, 120, 116, 101, 110, 100]⟩, ⟨#[70, 111, 114, 109, 97, 116]⟩, ⟨#[90, 87, 74]⟩] : List ByteArray).any (fun x => A.toList == x.toList) = (a == 5 || a == 6 || a == 4) := by
      rw [List.any_cons, List.any_cons, List.any_cons, List.any_nil, Bool.or_false, show (⟨#[69, 120, 116, 101, 110, 100]⟩ : ByteArray).toList = [69, 120, 116, 101, 110, 100] from lit_list [69, 120, 116, 101, 110, 100], h.n5, show (⟨#[70, 111, 114, 109, 97, 116]⟩ : ByteArray).toList = [70, 111, 114, 109, 97, 116] from lit_list [70, 111, 114, 109, 97, 116], h.n6, show (⟨#[90, 87, 74]⟩ : ByteArray).toList = [90, 87, 74] from lit_list [90, 87, 74], h.n4]
      rw [Bool.or_assoc]
    rw [e] at q
    exact q
  · match j, hj with
    | 0, hj => simp at hj; subst hj; simp
    | 1, hj => simp at hj; subst hj; simp
    | 2, hj => simp at hj; subst hj; simp
    | k + 3, hj => simp at hj
theorem one_li (A : ByteArray) (a : Int) (w : World) (h : IsW A a) : Calls Tryz.prog 42 #[.string A, .slice (some ⟨w.heap.size, 0, none⟩) 3 3] (w.alloc (.cells #[.string ⟨#[78, 101, 119, 108, 105, 110, 101]⟩, .string ⟨#[67, 82]⟩, .string ⟨#[76, 70]⟩] 9)) fun e w' => e = .returned (.bool (a == 3 || a == 1 || a == 2)) ∧ w' = w.alloc (.cells #[.string ⟨#[78, 101, 119, 108, 105, 110, 101]⟩, .string ⟨#[67, 82]⟩, .string ⟨#[76, 70]⟩] 9) := by
  have q := one_any A w.heap.size 3 [⟨#[78, 101, 119, 108, 105, 110, 101]⟩, ⟨#[67, 82]⟩, ⟨#[76, 70]⟩] (w.alloc (.cells #[.string ⟨#[78, 101, 119, 108, 105, 110, 101]⟩, .string ⟨#[67, 82]⟩, .string ⟨#[76, 70]⟩] 9)) rfl (fun j x hj => ?_) (by decide)
  · have e : ([⟨#[78, 101, 119, 108, 105, 110, 101]⟩, ⟨#[67, 82]⟩, ⟨#[76, 70]⟩] : List ByteArray).any (fun x => A.toList == x.toList) = (a == 3 || a == 1 || a == 2) := by
      rw [List.any_cons, List.any_cons, List.any_cons, List.any_nil, Bool.or_false, show (⟨#[78, 101, 119, 108, 105, 110, 101]⟩ : ByteArray).toList = [78, 101, 119, 108, 105, 110, 101] from lit_list [78, 101, 119, 108, 105, 110, 101], h.n3, show (⟨#[67, 82]⟩ : ByteArray).toList = [67, 82] from lit_list [67, 82], h.n1, show (⟨#[76, 70]⟩ : ByteArray).toList = [76, 70] from lit_list [76, 70], h.n2]
      rw [Bool.or_assoc]
    rw [e] at q
    exact q
  · match j, hj with
    | 0, hj => simp at hj; subst hj; simp
    | 1, hj => simp at hj; subst hj; simp
    | 2, hj => simp at hj; subst hj; simp
    | k + 3, hj => simp at hj
theorem one_le (A : ByteArray) (a : Int) (w : World) (h : IsW A a) : Calls Tryz.prog 42 #[.string A, .slice (some ⟨w.heap.size, 0, none⟩) 2 2] (w.alloc (.cells #[.string ⟨#[76, 101, 116, 116, 101, 114]⟩, .string ⟨#[72, 101, 98, 114, 101, 119]⟩] 9)) fun e w' => e = .returned (.bool (a == 9 || a == 10)) ∧ w' = w.alloc (.cells #[.string ⟨#[76, 101, 116, 116, 101, 114]⟩, .string ⟨#[72, 101, 98, 114, 101, 119]⟩] 9) := by
  have q := one_any A w.heap.size 2 [⟨#[76, 101, 116, 116, 101, 114]⟩, ⟨#[72, 101, 98, 114, 101, 119]⟩] (w.alloc (.cells #[.string ⟨#[76, 101, 116, 116, 101, 114]⟩, .string ⟨#[72, 101, 98, 114, 101, 119]⟩] 9)) rfl (fun j x hj => ?_) (by decide)
  · have e : ([⟨#[76, 101, 116, 116, 101, 114]⟩, ⟨#[72, 101, 98, 114, 101, 119]⟩] : List ByteArray).any (fun x => A.toList == x.toList) = (a == 9 || a == 10) := by
      rw [List.any_cons, List.any_cons, List.any_nil, Bool.or_false, show (⟨#[76, 101, 116, 116, 101, 114]⟩ : ByteArray).toList = [76, 101, 116, 116, 101, 114] from lit_list [76, 101, 116, 116, 101, 114], h.n9, show (⟨#[72, 101, 98, 114, 101, 119]⟩ : ByteArray).toList = [72, 101, 98, 114, 101, 119] from lit_list [72, 101, 98, 114, 101, 119], h.n10]
    rw [e] at q
    exact q
  · match j, hj with
    | 0, hj => simp at hj; subst hj; simp
    | 1, hj => simp at hj; subst hj; simp
    | k + 2, hj => simp at hj
theorem one_qu (A : ByteArray) (a : Int) (w : World) (h : IsW A a) : Calls Tryz.prog 42 #[.string A, .slice (some ⟨w.heap.size, 0, none⟩) 2 2] (w.alloc (.cells #[.string ⟨#[77, 105, 100, 78, 117, 109, 76, 101, 116]⟩, .string ⟨#[83, 105, 110, 103, 108, 101, 81, 117, 111, 116, 101]⟩] 9)) fun e w' => e = .returned (.bool (a == 15 || a == 11)) ∧ w' = w.alloc (.cells #[.string ⟨#[77, 105, 100, 78, 117, 109, 76, 101, 116]⟩, .string ⟨#[83, 105, 110, 103, 108, 101, 81, 117, 111, 116, 101]⟩] 9) := by
  have q := one_any A w.heap.size 2 [⟨#[77, 105, 100, 78, 117, 109, 76, 101, 116]⟩, ⟨#[83, 105, 110, 103, 108, 101, 81, 117, 111, 116, 101]⟩] (w.alloc (.cells #[.string ⟨#[77, 105, 100, 78, 117, 109, 76, 101, 116]⟩, .string ⟨#[83, 105, 110, 103, 108, 101, 81, 117, 111, 116, 101]⟩] 9)) rfl (fun j x hj => ?_) (by decide)
  · have e : ([⟨#[77, 105, 100, 78, 117, 109, 76, 101, 116]⟩, ⟨#[83, 105, 110, 103, 108, 101, 81, 117, 111, 116, 101]⟩] : List ByteArray).any (fun x => A.toList == x.toList) = (a == 15 || a == 11) := by
      rw [List.any_cons, List.any_cons, List.any_nil, Bool.or_false, show (⟨#[77, 105, 100, 78, 117, 109, 76, 101, 116]⟩ : ByteArray).toList = [77, 105, 100, 78, 117, 109, 76, 101, 116] from lit_list [77, 105, 100, 78, 117, 109, 76, 101, 116], h.n15, show (⟨#[83, 105, 110, 103, 108, 101, 81, 117, 111, 116, 101]⟩ : ByteArray).toList = [83, 105, 110, 103, 108, 101, 81, 117, 111, 116, 101] from lit_list [83, 105, 110, 103, 108, 101, 81, 117, 111, 116, 101], h.n11]
    rw [e] at q
    exact q
  · match j, hj with
    | 0, hj => simp at hj; subst hj; simp
    | 1, hj => simp at hj; subst hj; simp
    | k + 2, hj => simp at hj
theorem one_n3 (A : ByteArray) (a : Int) (w : World) (h : IsW A a) : Calls Tryz.prog 42 #[.string A, .slice (some ⟨w.heap.size, 0, none⟩) 3 3] (w.alloc (.cells #[.string ⟨#[78, 117, 109, 101, 114, 105, 99]⟩, .string ⟨#[75, 97, 116, 97, 107, 97, 110, 97]⟩, .string ⟨#[74, 111, 105, 110, 101, 114]⟩] 9)) fun e w' => e = .returned (.bool (a == 16 || a == 17 || a == 18)) ∧ w' = w.alloc (.cells #[.string ⟨#[78, 117, 109, 101, 114, 105, 99]⟩, .string ⟨#[75, 97, 116, 97, 107, 97, 110, 97]⟩, .string ⟨#[74, 111, 105, 110, 101, 114]⟩] 9) := by
  have q := one_any A w.heap.size 3 [⟨#[78, 117, 109, 101, 114, 105, 99]⟩, ⟨#[75, 97, 116, 97, 107, 97, 110, 97]⟩, ⟨#[74, 111, 105, 110, 101, 114]⟩] (w.alloc (.cells #[.string ⟨#[78, 117, 109, 101, 114, 105, 99]⟩, .string ⟨#[75, 97, 116, 97, 107, 97, 110, 97]⟩, .string ⟨#[74, 111, 105, 110, 101, 114]⟩] 9)) rfl (fun j x hj => ?_) (by decide)
  · have e : ([⟨#[78, 117, 109, 101, 114, 105, 99]⟩, ⟨#[75, 97, 116, 97, 107, 97, 110, 97]⟩, ⟨#[74, 111, 105, 110, 101, 114]⟩] : List ByteArray).any (fun x => A.toList == x.toList) = (a == 16 || a == 17 || a == 18) := by
      rw [List.any_cons, List.any_cons, List.any_cons, List.any_nil, Bool.or_false, show (⟨#[78, 117, 109, 101, 114, 105, 99]⟩ : ByteArray).toList = [78, 117, 109, 101, 114, 105, 99] from lit_list [78, 117, 109, 101, 114, 105, 99], h.n16, show (⟨#[75, 97, 116, 97, 107, 97, 110, 97]⟩ : ByteArray).toList = [75, 97, 116, 97, 107, 97, 110, 97] from lit_list [75, 97, 116, 97, 107, 97, 110, 97], h.n17, show (⟨#[74, 111, 105, 110, 101, 114]⟩ : ByteArray).toList = [74, 111, 105, 110, 101, 114] from lit_list [74, 111, 105, 110, 101, 114], h.n18]
      rw [Bool.or_assoc]
    rw [e] at q
    exact q
  · match j, hj with
    | 0, hj => simp at hj; subst hj; simp
    | 1, hj => simp at hj; subst hj; simp
    | 2, hj => simp at hj; subst hj; simp
    | k + 3, hj => simp at hj
theorem one_n2 (A : ByteArray) (a : Int) (w : World) (h : IsW A a) : Calls Tryz.prog 42 #[.string A, .slice (some ⟨w.heap.size, 0, none⟩) 2 2] (w.alloc (.cells #[.string ⟨#[78, 117, 109, 101, 114, 105, 99]⟩, .string ⟨#[75, 97, 116, 97, 107, 97, 110, 97]⟩] 9)) fun e w' => e = .returned (.bool (a == 16 || a == 17)) ∧ w' = w.alloc (.cells #[.string ⟨#[78, 117, 109, 101, 114, 105, 99]⟩, .string ⟨#[75, 97, 116, 97, 107, 97, 110, 97]⟩] 9) := by
  have q := one_any A w.heap.size 2 [⟨#[78, 117, 109, 101, 114, 105, 99]⟩, ⟨#[75, 97, 116, 97, 107, 97, 110, 97]⟩] (w.alloc (.cells #[.string ⟨#[78, 117, 109, 101, 114, 105, 99]⟩, .string ⟨#[75, 97, 116, 97, 107, 97, 110, 97]⟩] 9)) rfl (fun j x hj => ?_) (by decide)
  · have e : ([⟨#[78, 117, 109, 101, 114, 105, 99]⟩, ⟨#[75, 97, 116, 97, 107, 97, 110, 97]⟩] : List ByteArray).any (fun x => A.toList == x.toList) = (a == 16 || a == 17) := by
      rw [List.any_cons, List.any_cons, List.any_nil, Bool.or_false, show (⟨#[78, 117, 109, 101, 114, 105, 99]⟩ : ByteArray).toList = [78, 117, 109, 101, 114, 105, 99] from lit_list [78, 117, 109, 101, 114, 105, 99], h.n16, show (⟨#[75, 97, 116, 97, 107, 97, 110, 97]⟩ : ByteArray).toList = [75, 97, 116, 97, 107, 97, 110, 97] from lit_list [75, 97, 116, 97, 107, 97, 110, 97], h.n17]
    rw [e] at q
    exact q
  · match j, hj with
    | 0, hj => simp at hj; subst hj; simp
    | 1, hj => simp at hj; subst hj; simp
    | k + 2, hj => simp at hj
set_option maxRecDepth 1000000 in
theorem rpassed_any (A : ByteArray) (a : Int) (w : World) (h : IsW A a) : Calls Tryz.prog 43 #[.string A] w fun e w' => e = .returned (.bool (passB a)) ∧ Below w.heap.size w w' := by
  have C := one_pa A a w h
  rw [show (a == 5 || a == 6 || a == 4) = passB a from rfl] at C
  clear h
  generalize passB a = X at *
  go_enter Tryz.func43, Tryz.ntmps43
  go_wp2_with fail
  refine C.mono ?_
  rintro e w1 ⟨rfl, hw⟩
  rw [hw]
  clear C hw w1
  go_wp2
  go_ret
  exact ⟨rfl, (Below.refl _ w).alloc (Nat.le_refl _) _⟩
set_option maxRecDepth 1000000 in
theorem rletter_any (A : ByteArray) (a : Int) (w : World) (h : IsW A a) : Calls Tryz.prog 73 #[.string A] w fun e w' => e = .returned (.bool (letB a)) ∧ Below w.heap.size w w' := by
  have C := one_le A a w h
  rw [show (a == 9 || a == 10) = letB a from rfl] at C
  clear h
  generalize letB a = X at *
  go_enter Tryz.func73, Tryz.ntmps73
  go_wp2_with fail
  refine C.mono ?_
  rintro e w1 ⟨rfl, hw⟩
  rw [hw]
  clear C hw w1
  go_wp2
  go_ret
  exact ⟨rfl, (Below.refl _ w).alloc (Nat.le_refl _) _⟩
set_option maxRecDepth 1000000 in
theorem rquote_any (A : ByteArray) (a : Int) (w : World) (h : IsW A a) : Calls Tryz.prog 74 #[.string A] w fun e w' => e = .returned (.bool (quoB a)) ∧ Below w.heap.size w w' := by
  have C := one_qu A a w h
  rw [show (a == 15 || a == 11) = quoB a from rfl] at C
  clear h
  generalize quoB a = X at *
  go_enter Tryz.func74, Tryz.ntmps74
  go_wp2_with fail
  refine C.mono ?_
  rintro e w1 ⟨rfl, hw⟩
  rw [hw]
  clear C hw w1
  go_wp2
  go_ret
  exact ⟨rfl, (Below.refl _ w).alloc (Nat.le_refl _) _⟩
/-- Where the document finds what stands ahead. -/
def rA (l : List Int) (m : Nat) : Int := if lineE (hdK (bk l m)) = true then -1 else (m : Int) - 1
set_option maxHeartbeats 1000000 in
set_option maxRecDepth 1000000 in
theorem rahead_t (u : Nat) (ao : Option Addr) (N cap : Nat) (l : List Int) (n : Nat) (w : World) (h : RTabs w u) (hv : Txt w ao N cap l) (hn : n ≤ N) :
    Calls Tryz.prog 44 #[.pointer (some ⟨u, 0, none⟩), .slice ao N cap, .int .i64 (n : Int)] w fun e w' => e = .returned (.int .i64 (rA l (aN l n))) ∧ Below w.heap.size w w' := by
  obtain ⟨hl, hat⟩ := iv_cells hv.iv
  have hlen := hv.len
  have HAT : Hid (∀ k, k < N → ∃ x b o, ao = some ⟨b, o, none⟩ ∧ w.cell? ⟨b, o + k, none⟩ = some (.int .i64 x) ∧ l[k]? = some x) := hat
  have HWI : Hid (∀ r W, Below w.heap.size w W → Calls Tryz.prog 41 #[.pointer (some ⟨u, 0, none⟩), .int .i64 r] W fun e w' => (∃ A, e = .returned (.string A) ∧ IsW A (kw r)) ∧ Below W.heap.size W w') := fun r W hb => (rword_t u r W (h.below hb)).mono (fun e w' hh => ⟨⟨_, hh.1, isW_wor r⟩, hh.2⟩)
  have HPS : Hid (∀ (j : Nat) (x : Int), l[j]? = some x → (passB (kw x) = true → aN l (j + 1) = aN l j) ∧ (passB (kw x) = false → aN l (j + 1) = j + 1) ∧ rA l (j + 1) = if lineE (kw x) = true then -1 else (j : Int)) := fun j x hx => ⟨fun h => aN_pass hx h, fun h => aN_stop hx h, by unfold rA; rw [bk_succ hx, show ((j + 1 : Nat) : Int) - 1 = (j : Int) by omega]; rfl⟩
  have HZ : Hid (rA l 0 = -1) := by show rA l 0 = -1; rfl
  obtain ⟨R, hR⟩ : ∃ R, aN l n = R := ⟨_, rfl⟩
  have HR0 : Hid (aN l n = R) := hR
  rw [hR]
  have w0 : IntKind.i64.wrap ((n : Int) - 1) = (n : Int) - 1 := by rw [IntKind.wrap_i64]; omega
  obtain ⟨V, hV⟩ : ∃ V, rA l R = V := ⟨_, rfl⟩
  have HV : Hid (rA l R = V) := hV
  rw [hV]
  clear h hv hl hat hR hV
  go_enter Tryz.func44, Tryz.ntmps44
  go_wp2
  go_loopw [7] (fun v wr => ∃ m : Nat, m ≤ N ∧ v = .int .i64 ((m : Int) - 1) ∧ Hid (aN l m = R) ∧ Hid (Below w.heap.size w wr)) (fun v _ => (RowKit.intOf v + 1).toNat)
  case atStart => exact ⟨n, hn, rfl, HR0, Below.refl _ _⟩
  case round =>
    clear HR0
    obtain ⟨m, hm, rfl, HR, HB⟩ := hrel
    rcases Nat.eq_zero_or_pos m with h0 | h0
    · have hV : V = -1 := by rw [← HV.out, ← HR.out, h0]; exact HZ.out
      have hge : ¬ (0 : Int) ≤ (m : Int) - 1 := by omega
      have em : (m : Int) - 1 = -1 := by omega
      rw [em] at hge ⊢
      clear HR em h0
      subst hV
      go_wp2
      go_ret
      exact ⟨rfl, HB.out⟩
    · obtain ⟨j, hj⟩ : ∃ j, m = j + 1 := ⟨m - 1, by omega⟩
      have ej : (m : Int) - 1 = (j : Int) := by omega
      obtain ⟨x, b, o, rfl, cx, hx⟩ := HAT.out j (by omega)
      obtain ⟨p1, p2, p3⟩ := HPS.out j x hx
      have hc := cell_below HB.out cx
      have hj0 : (0 : Int) ≤ (j : Int) := by omega
      have hjN : (j : Int) < (N : Int) := by omega
      have hjN2 : j ≤ N := by omega
      have HJR : Hid (aN l (j + 1) = R) := by show _ = _; rw [← hj]; exact HR.out
      have C := HWI.out x wr HB.out
      have HMS : Hid ((((j : Nat) : Int) - 1 + 1).toNat < ((j : Int) + 1).toNat) := by show _ < _; omega
      have wj : IntKind.i64.wrap ((j : Int) - 1) = (j : Int) - 1 := by rw [IntKind.wrap_i64]; omega
      rw [ej]
      clear hx ej h0 HR hj
      cases hp : passB (kw x) with
      | true =>
        have HR2 : Hid (aN l j = R) := (p1 hp).symm.trans HJR.out
        have HP : Hid (passB (kw x) = true) := hp
        clear p1 p2 p3 hp HJR
        generalize kw x = q at *
        go_wp2_with fail
        refine C.mono ?_
        rintro e w1 ⟨⟨A, rfl, hA⟩, b1⟩
        clear C
        have HB1 : Hid (Below w.heap.size w w1) := HB.out.trans (b1.mono HB.out.size)
        have C := rpassed_any A q w1 hA
        rw [HP.out] at C
        clear hA b1 HB hc
        go_wp2_with fail
        refine C.mono ?_
        rintro e w2 ⟨rfl, b2⟩
        clear C
        have HB2 : Hid (Below w.heap.size w w2) := HB1.out.trans (b2.mono HB1.out.size)
        clear b2 HB1
        go_wp2
        exact ⟨⟨j, hjN2, rfl, HR2, HB2⟩, HMS.out⟩
      | false =>
        have HVV : Hid (V = if lineE (kw x) = true then -1 else (j : Int)) := by
          show _ = _
          rw [← HV.out, ← HJR.out, p2 hp]
          exact p3
        have HP : Hid (passB (kw x) = false) := hp
        have HWX : Hid (∀ W, Below w.heap.size w W → Calls Tryz.prog 41 #[.pointer (some ⟨u, 0, none⟩), .int .i64 x] W fun e w' => (∃ A, e = .returned (.string A) ∧ IsW A (kw x)) ∧ Below W.heap.size W w') := fun W hb => HWI.out x W hb
        have HCX : Hid (w.cell? ⟨b, o + j, none⟩ = some (.int .i64 x)) := cx
        clear p1 p2 p3 hp HJR cx
        generalize kw x = q at *
        go_wp2_with fail
        refine C.mono ?_
        rintro e w1 ⟨⟨A, rfl, hA⟩, b1⟩
        clear C
        have HB1 : Hid (Below w.heap.size w w1) := HB.out.trans (b1.mono HB.out.size)
        have C := rpassed_any A q w1 hA
        rw [HP.out] at C
        clear hA b1 HB hc
        go_wp2_with fail
        refine C.mono ?_
        rintro e w2 ⟨rfl, b2⟩
        clear C
        have HB2 : Hid (Below w.heap.size w w2) := HB1.out.trans (b2.mono HB1.out.size)
        clear b2 HB1
        have hc2 := cell_below HB2.out HCX.out
        have C := HWX.out w2 HB2.out
        go_wp2_with fail
        refine C.mono ?_
        rintro e w3 ⟨⟨A2, rfl, hA2⟩, b3⟩
        clear C
        have HB3 : Hid (Below w.heap.size w w3) := HB2.out.trans (b3.mono HB2.out.size)
        have HB4 : Hid (Below w.heap.size w (w3.alloc (.cells #[.string ⟨#[78, 101, 119, 108, 105, 110, 101]⟩, .string ⟨#[67, 82]⟩, .string ⟨#[76, 70]⟩] 9))) := HB3.out.alloc HB3.out.size _
        have C := one_li A2 q w3 hA2
        rw [show (q == 3 || q == 1 || q == 2) = lineE q from rfl] at C
        clear hA2 b3 HB2 hc2 HB3
        cases hq : lineE q with
        | true =>
          rw [hq] at C
          have hV : V = -1 := by rw [HVV.out, if_pos hq]
          clear HVV hq HV
          subst hV
          go_wp2_with fail
          refine C.mono ?_
          rintro e wz ⟨rfl, hw⟩
          rw [hw]
          clear C hw wz
          go_wp2
          try rw [Exit.noGoto_ret]
          go_ret
          exact ⟨rfl, HB4.out⟩
        | false =>
          rw [hq] at C
          have hV : V = (j : Int) := by rw [HVV.out, if_neg (by rw [hq]; decide)]
          clear HVV hq HV
          subst hV
          go_wp2_with fail
          refine C.mono ?_
          rintro e wz ⟨rfl, hw⟩
          rw [hw]
          clear C hw wz
          go_wp2
          try rw [Exit.noGoto_ret]
          go_ret
          exact ⟨rfl, HB4.out⟩
set_option maxRecDepth 1000000 in
theorem rw_none (u : Nat) (ao : Option Addr) (N cap : Nat) (l : List Int) (i : Int) (w : World) (h : RTabs w u) (hv : Txt w ao N cap l) (hi : i < 0) :
    Calls Tryz.prog 45 #[.pointer (some ⟨u, 0, none⟩), .slice ao N cap, .int .i64 i] w fun e w' => (∃ A, e = .returned (.string A) ∧ IsW A 0) ∧ Below w.heap.size w w' := by
  clear h hv
  go_enter Tryz.func45, Tryz.ntmps45
  go_wp2
  try rw [Exit.noGoto_ret]
  go_ret
  exact ⟨⟨_, rfl, isW_none⟩, Below.refl _ _⟩
set_option maxRecDepth 1000000 in
theorem rw_at (u : Nat) (ao : Option Addr) (N cap : Nat) (l : List Int) (j : Nat) (x : Int) (w : World) (h : RTabs w u) (hv : Txt w ao N cap l) (hx : l[j]? = some x) :
    Calls Tryz.prog 45 #[.pointer (some ⟨u, 0, none⟩), .slice ao N cap, .int .i64 (j : Int)] w fun e w' => (∃ A, e = .returned (.string A) ∧ IsW A (kw x)) ∧ Below w.heap.size w w' := by
  obtain ⟨hl, hat⟩ := iv_cells hv.iv
  have hlen := hv.len
  have HAT : Hid (∀ k, k < N → ∃ x b o, ao = some ⟨b, o, none⟩ ∧ w.cell? ⟨b, o + k, none⟩ = some (.int .i64 x) ∧ l[k]? = some x) := hat
  have HWI : Hid (∀ r W, Below w.heap.size w W → Calls Tryz.prog 41 #[.pointer (some ⟨u, 0, none⟩), .int .i64 r] W fun e w' => (∃ A, e = .returned (.string A) ∧ IsW A (kw r)) ∧ Below W.heap.size W w') := fun r W hb => (rword_t u r W (h.below hb)).mono (fun e w' hh => ⟨⟨_, hh.1, isW_wor r⟩, hh.2⟩)
  have hjl := (List.getElem?_eq_some_iff.1 hx).1
  obtain ⟨x', b, o, rfl, cx, hx'⟩ := HAT.out j (by omega)
  obtain rfl : x = x' := by rw [hx] at hx'; injection hx'
  have C := HWI.out x w (Below.refl _ _)
  have j0 : ¬ (j : Int) < 0 := by omega
  have j1 : (0 : Int) ≤ (j : Int) := by omega
  have j2 : (j : Int) < (N : Int) := by omega
  clear h hv hl hat hx hx' hjl HAT HWI
  generalize kw x = q at *
  go_enter Tryz.func45, Tryz.ntmps45
  go_wp2_with fail
  refine C.mono ?_
  rintro e w1 ⟨⟨A, rfl, hA⟩, b1⟩
  clear C
  have HA : Hid (IsW A q) := hA
  clear hA
  go_wp2
  go_ret
  exact ⟨⟨_, rfl, HA.out⟩, b1⟩
theorem hd_bk {l : List Int} {j : Nat} {x : Int} (hx : l[j]? = some x) : hdK (bk l (j + 1)) = kw x := by rw [bk_succ hx]; rfl
/-- The break that the document reads at what stands ahead. -/
theorem rwA_t (u : Nat) (ao : Option Addr) (N cap : Nat) (l : List Int) (m : Nat) (w : World) (h : RTabs w u) (hv : Txt w ao N cap l) (hm : m ≤ N) :
    Calls Tryz.prog 45 #[.pointer (some ⟨u, 0, none⟩), .slice ao N cap, .int .i64 (rA l m)] w fun e w' => (∃ A, e = .returned (.string A) ∧ IsW A (nz (hdK (bk l m)))) ∧ Below w.heap.size w w' := by
  have hl := hv.length
  cases m with
  | zero =>
    rw [show rA l 0 = -1 from rfl, show nz (hdK (bk l 0)) = 0 from rfl]
    exact rw_none u ao N cap l (-1) w h hv (by omega)
  | succ j =>
    have hx : l[j]? = some l[j] := List.getElem?_eq_getElem (by omega)
    rw [hd_bk hx]
    unfold rA nz
    rw [hd_bk hx, show ((j + 1 : Nat) : Int) - 1 = (j : Int) by omega]
    have hr := kw_range l[j]
    by_cases hq : lineE (kw l[j]) = true
    · rw [if_pos hq, if_pos (.inl hq)]
      exact rw_none u ao N cap l (-1) w h hv (by omega)
    · rw [if_neg hq, if_neg (fun e => e.elim hq (fun e => by omega))]
      exact rw_at u ao N cap l j _ w h hv hx
set_option maxRecDepth 1000000 in
theorem rbefore_none (u : Nat) (ao : Option Addr) (N cap : Nat) (l : List Int) (i : Int) (w : World) (h : RTabs w u) (hv : Txt w ao N cap l) (hi : i < 0) :
    Calls Tryz.prog 47 #[.pointer (some ⟨u, 0, none⟩), .slice ao N cap, .int .i64 i] w fun e w' => (∃ A, e = .returned (.string A) ∧ IsW A 0) ∧ Below w.heap.size w w' := by
  clear h hv
  go_enter Tryz.func47, Tryz.ntmps47
  go_wp2
  try rw [Exit.noGoto_ret]
  go_ret
  exact ⟨⟨_, rfl, isW_none⟩, Below.refl _ _⟩
set_option maxRecDepth 1000000 in
theorem rbefore_at (u : Nat) (ao : Option Addr) (N cap : Nat) (l : List Int) (j : Nat) (w : World) (h : RTabs w u) (hv : Txt w ao N cap l) (hj : j ≤ N) :
    Calls Tryz.prog 47 #[.pointer (some ⟨u, 0, none⟩), .slice ao N cap, .int .i64 (j : Int)] w fun e w' => (∃ A, e = .returned (.string A) ∧ IsW A (nz (hdK (skip (bk l j))))) ∧ Below w.heap.size w w' := by
  have hl := hv.length
  have C := rahead_t u ao N cap l j w h hv hj
  have HW : Hid (∀ W, Below w.heap.size w W → Calls Tryz.prog 45 #[.pointer (some ⟨u, 0, none⟩), .slice ao N cap, .int .i64 (rA l (aN l j))] W fun e w' => (∃ A, e = .returned (.string A) ∧ IsW A (nz (hdK (skip (bk l j))))) ∧ Below W.heap.size W w') := fun W hb => by
    rw [skip_bk (by omega)]
    exact rwA_t u ao N cap l (aN l j) W (h.below hb) (hv.below hb) (by have := aN_le l j; omega)
  have j0 : ¬ (j : Int) < 0 := by omega
  clear h hv hl
  generalize rA l (aN l j) = V at *
  generalize nz (hdK (skip (bk l j))) = q at *
  go_enter Tryz.func47, Tryz.ntmps47
  go_wp2_with fail
  refine C.mono ?_
  rintro e w1 ⟨rfl, b1⟩
  clear C
  have C := HW.out w1 b1
  have HB1 : Hid (Below w.heap.size w w1) := b1
  clear b1
  go_wp2_with fail
  refine C.mono ?_
  rintro e w2 ⟨⟨A, rfl, hA⟩, b2⟩
  clear C
  have HA : Hid (IsW A q) := hA
  have HB2 : Hid (Below w.heap.size w w2) := HB1.out.trans (b2.mono HB1.out.size)
  clear hA b2
  go_wp2
  go_ret
  exact ⟨⟨_, rfl, HA.out⟩, HB2.out⟩
theorem rbefore_t (u : Nat) (ao : Option Addr) (N cap : Nat) (l : List Int) (m : Nat) (w : World) (h : RTabs w u) (hv : Txt w ao N cap l) (hm : m ≤ N) :
    Calls Tryz.prog 47 #[.pointer (some ⟨u, 0, none⟩), .slice ao N cap, .int .i64 (rA l m)] w fun e w' => (∃ A, e = .returned (.string A) ∧ IsW A (if lineE (hdK (bk l m)) = true ∨ hdK (bk l m) < 0 then 0 else nz (hdK (skip (bk l m).tail)))) ∧ Below w.heap.size w w' := by
  have hl := hv.length
  cases m with
  | zero =>
    rw [show rA l 0 = -1 from rfl, if_pos (.inr (show (-1 : Int) < 0 by decide))]
    exact rbefore_none u ao N cap l (-1) w h hv (by omega)
  | succ j =>
    have hx : l[j]? = some l[j] := List.getElem?_eq_getElem (by omega)
    rw [bk_tail (by omega), hd_bk hx]
    unfold rA
    rw [hd_bk hx, show ((j + 1 : Nat) : Int) - 1 = (j : Int) by omega]
    have hr := kw_range l[j]
    by_cases hq : lineE (kw l[j]) = true
    · rw [if_pos hq, if_pos (.inl hq)]
      exact rbefore_none u ao N cap l (-1) w h hv (by omega)
    · rw [if_neg hq, if_neg (fun e => e.elim hq (fun e => by omega))]
      exact rbefore_at u ao N cap l j w h hv (by omega)
/-- The place j is where a break is read: -1 is nothing. -/
def PlaceOf (l : List Int) (j q : Int) : Prop := (j = -1 ∧ q = 0) ∨ ∃ (k : Nat) (x : Int), j = (k : Int) ∧ l[k]? = some x ∧ kw x = q
theorem rwP_t (u : Nat) (ao : Option Addr) (N cap : Nat) (l : List Int) (j q : Int) (w : World) (h : RTabs w u) (hv : Txt w ao N cap l) (hp : PlaceOf l j q) :
    Calls Tryz.prog 45 #[.pointer (some ⟨u, 0, none⟩), .slice ao N cap, .int .i64 j] w fun e w' => (∃ A, e = .returned (.string A) ∧ IsW A q) ∧ Below w.heap.size w w' := by
  rcases hp with ⟨rfl, rfl⟩ | ⟨k, x, rfl, hx, rfl⟩
  · exact rw_none u ao N cap l (-1) w h hv (by omega)
  · exact rw_at u ao N cap l k x w h hv hx
set_option maxHeartbeats 1000000 in
set_option maxRecDepth 1000000 in
theorem rbehind_t (u : Nat) (ao : Option Addr) (N cap : Nat) (l : List Int) (n : Nat) (w : World) (h : RTabs w u) (hv : Txt w ao N cap l) (hn : n < N) :
    Calls Tryz.prog 48 #[.pointer (some ⟨u, 0, none⟩), .slice ao N cap, .int .i64 (n : Int)] w fun e w' => (∃ j, e = .returned (.int .i64 j) ∧ PlaceOf l j (nz (hdK (skip (fw l (n + 1)))))) ∧ Below w.heap.size w w' := by
  obtain ⟨hl, hat⟩ := iv_cells hv.iv
  have hlen := hv.len
  have HAT : Hid (∀ k, k < N → ∃ x b o, ao = some ⟨b, o, none⟩ ∧ w.cell? ⟨b, o + k, none⟩ = some (.int .i64 x) ∧ l[k]? = some x) := hat
  have HWI : Hid (∀ r W, Below w.heap.size w W → Calls Tryz.prog 41 #[.pointer (some ⟨u, 0, none⟩), .int .i64 r] W fun e w' => (∃ A, e = .returned (.string A) ∧ IsW A (kw r)) ∧ Below W.heap.size W w') := fun r W hb => (rword_t u r W (h.below hb)).mono (fun e w' hh => ⟨⟨_, hh.1, isW_wor r⟩, hh.2⟩)
  have HPS : Hid (∀ (j : Nat) (x : Int), l[j]? = some x → (passB (kw x) = true → skip (fw l j) = skip (fw l (j + 1))) ∧ (passB (kw x) = false → nz (hdK (skip (fw l j))) = if lineE (kw x) = true then 0 else kw x)) := fun j x hx => by
    rw [fw_cons hx]
    refine ⟨fun h => skip_pass _ h, fun h => ?_⟩
    rw [skip_stop _ h]
    show nz (kw x) = _
    unfold nz
    have hr := kw_range x
    by_cases hq : lineE (kw x) = true
    · rw [if_pos hq, if_pos (.inl hq)]
    · rw [if_neg hq, if_neg (fun e => e.elim hq (fun e => by omega))]
  have HZ : Hid (nz (hdK (skip (fw l N))) = 0) := by show _ = _; rw [fw_end (by omega)]; rfl
  obtain ⟨R, hR⟩ : ∃ R, skip (fw l (n + 1)) = R := ⟨_, rfl⟩
  have HR0 : Hid (skip (fw l (n + 1)) = R) := hR
  rw [hR]
  have w0 : IntKind.i64.wrap ((n : Int) + 1) = ((n + 1 : Nat) : Int) := by rw [IntKind.wrap_i64]; omega
  obtain ⟨V, hV⟩ : ∃ V, nz (hdK R) = V := ⟨_, rfl⟩
  have HV : Hid (nz (hdK R) = V) := hV
  rw [hV]
  clear h hv hl hat hR hV
  go_enter Tryz.func48, Tryz.ntmps48
  go_wp2
  go_loopw [7] (fun v wr => ∃ m : Nat, m ≤ N ∧ v = .int .i64 (m : Int) ∧ Hid (skip (fw l m) = R) ∧ Hid (Below w.heap.size w wr)) (fun v _ => N - (RowKit.intOf v).toNat)
  case atStart => exact ⟨n + 1, by omega, by first | rfl | simp, HR0, Below.refl _ _⟩
  case round =>
    clear HR0
    obtain ⟨m, hm, rfl, HR, HB⟩ := hrel
    by_cases hmN : (m : Int) < (N : Int)
    · obtain ⟨x, b, o, rfl, cx, hx⟩ := HAT.out m (by omega)
      obtain ⟨p1, p2⟩ := HPS.out m x hx
      have hc := cell_below HB.out cx
      have hm0 : (0 : Int) ≤ (m : Int) := by omega
      have C := HWI.out x wr HB.out
      have wj : IntKind.i64.wrap ((m : Int) + 1) = (m : Int) + 1 := by rw [IntKind.wrap_i64]; omega
      have HX : Hid (l[m]? = some x) := hx
      clear hx
      cases hp : passB (kw x) with
      | true =>
        have HR2 : Hid (skip (fw l (m + 1)) = R) := (p1 hp).symm.trans HR.out
        have HP : Hid (passB (kw x) = true) := hp
        clear p1 p2 hp HR
        generalize kw x = q at *
        go_wp2_with fail
        refine C.mono ?_
        rintro e w1 ⟨⟨A, rfl, hA⟩, b1⟩
        clear C
        have HB1 : Hid (Below w.heap.size w w1) := HB.out.trans (b1.mono HB.out.size)
        have C := rpassed_any A q w1 hA
        rw [HP.out] at C
        clear hA b1 HB hc
        go_wp2_with fail
        refine C.mono ?_
        rintro e w2 ⟨rfl, b2⟩
        clear C
        have HB2 : Hid (Below w.heap.size w w2) := HB1.out.trans (b2.mono HB1.out.size)
        clear b2 HB1
        go_wp2
        exact ⟨⟨m + 1, by omega, by first | rfl | simp, HR2, HB2⟩, by simp [RowKit.intOf]; omega⟩
      | false =>
        have HVV : Hid (V = if lineE (kw x) = true then 0 else kw x) := by
          show _ = _
          rw [← HV.out, ← HR.out]
          exact p2 hp
        have HP : Hid (passB (kw x) = false) := hp
        have HWX : Hid (∀ W, Below w.heap.size w W → Calls Tryz.prog 41 #[.pointer (some ⟨u, 0, none⟩), .int .i64 x] W fun e w' => (∃ A, e = .returned (.string A) ∧ IsW A (kw x)) ∧ Below W.heap.size W w') := fun W hb => HWI.out x W hb
        have HCX : Hid (w.cell? ⟨b, o + m, none⟩ = some (.int .i64 x)) := cx
        have HQ : Hid (∀ q, kw x = q → lineE q = true → PlaceOf l (-1) V) := fun q hq hl => .inl ⟨rfl, by rw [HVV.out, hq, if_pos hl]⟩
        have HQ2 : Hid (∀ q, kw x = q → lineE q = false → PlaceOf l (m : Int) V) := fun q hq hl => .inr ⟨m, x, rfl, HX.out, by rw [HVV.out, hq, if_neg (by rw [hl]; decide)]⟩
        clear p1 p2 hp HR cx HVV HX
        obtain ⟨q, hq⟩ : ∃ q, kw x = q := ⟨_, rfl⟩
        have HQA : Hid (lineE q = true → PlaceOf l (-1) V) := fun hl => HQ.out q hq hl
        have HQB : Hid (lineE q = false → PlaceOf l (m : Int) V) := fun hl => HQ2.out q hq hl
        rw [hq] at C HP HWX
        clear HQ HQ2 hq
        go_wp2_with fail
        refine C.mono ?_
        rintro e w1 ⟨⟨A, rfl, hA⟩, b1⟩
        clear C
        have HB1 : Hid (Below w.heap.size w w1) := HB.out.trans (b1.mono HB.out.size)
        have C := rpassed_any A q w1 hA
        rw [HP.out] at C
        clear hA b1 HB hc
        go_wp2_with fail
        refine C.mono ?_
        rintro e w2 ⟨rfl, b2⟩
        clear C
        have HB2 : Hid (Below w.heap.size w w2) := HB1.out.trans (b2.mono HB1.out.size)
        clear b2 HB1
        have hc2 := cell_below HB2.out HCX.out
        have C := HWX.out w2 HB2.out
        go_wp2_with fail
        refine C.mono ?_
        rintro e w3 ⟨⟨A2, rfl, hA2⟩, b3⟩
        clear C
        have HB3 : Hid (Below w.heap.size w w3) := HB2.out.trans (b3.mono HB2.out.size)
        have HB4 : Hid (Below w.heap.size w (w3.alloc (.cells #[.string ⟨#[78, 101, 119, 108, 105, 110, 101]⟩, .string ⟨#[67, 82]⟩, .string ⟨#[76, 70]⟩] 9))) := HB3.out.alloc HB3.out.size _
        have C := one_li A2 q w3 hA2
        rw [show (q == 3 || q == 1 || q == 2) = lineE q from rfl] at C
        clear hA2 b3 HB2 hc2 HB3
        cases hq : lineE q with
        | true =>
          rw [hq] at C
          have HF : Hid (PlaceOf l (-1) V) := HQA.out hq
          clear HQA HQB hq HV
          go_wp2_with fail
          refine C.mono ?_
          rintro e wz ⟨rfl, hw⟩
          rw [hw]
          clear C hw wz
          go_wp2
          try rw [Exit.noGoto_ret]
          go_ret
          exact ⟨⟨_, rfl, HF.out⟩, HB4.out⟩
        | false =>
          rw [hq] at C
          have HF : Hid (PlaceOf l (m : Int) V) := HQB.out hq
          clear HQA HQB hq HV
          go_wp2_with fail
          refine C.mono ?_
          rintro e wz ⟨rfl, hw⟩
          rw [hw]
          clear C hw wz
          go_wp2
          try rw [Exit.noGoto_ret]
          go_ret
          exact ⟨⟨_, rfl, HF.out⟩, HB4.out⟩
    · have hmN2 : m = N := by omega
      have HF : Hid (PlaceOf l (-1) V) := .inl ⟨rfl, by rw [← HV.out, ← HR.out, hmN2]; exact HZ.out⟩
      clear HR HV hmN2
      go_wp2
      try rw [Exit.noGoto_ret]
      go_ret
      exact ⟨⟨_, rfl, HF.out⟩, HB.out⟩
theorem rA_cases {l : List Int} {m : Nat} (hm : m ≤ l.length) (hp : passB (hdK (bk l m)) = false) : (rA l m = -1 ∧ flW (bk l m) = 0) ∨ ∃ (j : Nat) (x : Int), m = j + 1 ∧ rA l m = (j : Int) ∧ l[j]? = some x ∧ (kw x ≠ 19 → flW (bk l m) = 0) ∧ (kw x = 19 → flW (bk l m) = 1 + flW (bk l (aN l j))) := by
  cases m with
  | zero => exact .inl ⟨rfl, rfl⟩
  | succ j =>
    have hx : l[j]? = some l[j] := List.getElem?_eq_getElem (by omega)
    rw [hd_bk hx] at hp
    unfold rA
    rw [hd_bk hx, bk_succ hx, flW_stop _ hp]
    by_cases hq : lineE (kw l[j]) = true
    · refine .inl ⟨by rw [if_pos hq], ?_⟩
      have := (lineE_iff _).1 hq
      rw [if_neg (by omega)]
    · refine .inr ⟨j, l[j], rfl, by rw [if_neg hq]; omega, hx, fun h => by rw [if_neg h], fun h => ?_⟩
      rw [if_pos h, ← skip_bk (by omega), flW_skip]
      omega
set_option maxHeartbeats 1000000 in
set_option maxRecDepth 1000000 in
theorem rflags_t (u : Nat) (ao : Option Addr) (N cap : Nat) (l : List Int) (n : Nat) (w : World) (h : RTabs w u) (hv : Txt w ao N cap l) (hn : n ≤ N) :
    Calls Tryz.prog 49 #[.pointer (some ⟨u, 0, none⟩), .slice ao N cap, .int .i64 (n : Int)] w fun e w' => e = .returned (.int .i64 ((flW (bk l n) : Nat) : Int)) ∧ Below w.heap.size w w' := by
  obtain ⟨hl, hat⟩ := iv_cells hv.iv
  have hlen := hv.len
  have HAT : Hid (∀ k, k < N → ∃ x b o, ao = some ⟨b, o, none⟩ ∧ w.cell? ⟨b, o + k, none⟩ = some (.int .i64 x) ∧ l[k]? = some x) := hat
  have HWI : Hid (∀ r W, Below w.heap.size w W → Calls Tryz.prog 41 #[.pointer (some ⟨u, 0, none⟩), .int .i64 r] W fun e w' => (∃ A, e = .returned (.string A) ∧ IsW A (kw r)) ∧ Below W.heap.size W w') := fun r W hb => (rword_t u r W (h.below hb)).mono (fun e w' hh => ⟨⟨_, hh.1, isW_wor r⟩, hh.2⟩)
  have HAI : Hid (∀ (W : World) (m : Nat), m ≤ N → Below w.heap.size w W → Calls Tryz.prog 44 #[.pointer (some ⟨u, 0, none⟩), .slice ao N cap, .int .i64 (m : Int)] W fun e w' => e = .returned (.int .i64 (rA l (aN l m))) ∧ Below W.heap.size W w') := fun W m hm hb => rahead_t u ao N cap l m W (h.below hb) (hv.below hb) hm
  have HCA : Hid (∀ m, m ≤ N → passB (hdK (bk l m)) = false → (rA l m = -1 ∧ flW (bk l m) = 0) ∨ ∃ (j : Nat) (x : Int), m = j + 1 ∧ rA l m = (j : Int) ∧ l[j]? = some x ∧ (kw x ≠ 19 → flW (bk l m) = 0) ∧ (kw x = 19 → flW (bk l m) = 1 + flW (bk l (aN l j)))) := fun m hm hp => rA_cases (by omega) hp
  have HST : Hid (∀ m, m ≤ N → passB (hdK (bk l (aN l m))) = false ∧ aN l m ≤ m) := fun m hm => ⟨by rw [← skip_bk (by omega)]; exact skip_not _, aN_le l m⟩
  have HF0 : Hid (flW (bk l n) = flW (bk l (aN l n))) := by show _ = _; rw [← skip_bk (by omega), flW_skip]
  have HFB : Hid (flW (bk l n) ≤ N) := by
    show _ ≤ _
    refine Nat.le_trans (flW_le _) ?_
    unfold bk
    rw [List.length_reverse, List.length_map, List.length_take]
    omega
  obtain ⟨T, hT⟩ : ∃ T, flW (bk l n) = T := ⟨_, rfl⟩
  rw [hT] at HF0 HFB
  rw [hT]
  have C := HAI.out w n hn (Below.refl _ _)
  clear h hv hl hat hT
  go_enter Tryz.func49, Tryz.ntmps49
  go_wp2_with fail
  refine C.mono ?_
  rintro e w1 ⟨rfl, b1⟩
  clear C
  have HB1 : Hid (Below w.heap.size w w1) := b1
  clear b1
  go_wp2
  go_loopw [7, 8] (fun p v wr => ∃ k m : Nat, m ≤ N ∧ p = .int .i64 (k : Int) ∧ v = .int .i64 (rA l m) ∧ Hid (T = k + flW (bk l m)) ∧ Hid (passB (hdK (bk l m)) = false) ∧ Hid (Below w.heap.size w wr)) (fun p v _ => (N - (RowKit.intOf p).toNat))
  case atStart =>
    have hs := HST.out n hn
    exact ⟨0, aN l n, by omega, rfl, rfl, by unfold Hid; rw [HF0.out]; omega, hs.1, HB1⟩
  case round =>
    clear HB1 HF0
    obtain ⟨k, m, hm, rfl, rfl, HT, HPA, HB⟩ := hrel
    rcases HCA.out m hm HPA.out with ⟨hv, hf⟩ | ⟨j, x, hj, hv, hx, f1, f2⟩
    · have hTk : T = k := by have := HT.out; rw [hf] at this; omega
      rw [hv]
      have hge : ¬ (0 : Int) ≤ -1 := by omega
      clear HT HPA hf hv
      subst hTk
      go_wp2
      go_ret
      exact ⟨rfl, HB.out⟩
    · rw [hv]
      obtain ⟨x', b, o, rfl, cx, hx'⟩ := HAT.out j (by omega)
      obtain rfl : x = x' := by rw [hx] at hx'; injection hx'
      have hc := cell_below HB.out cx
      have C := HWI.out x wr HB.out
      have hj0 : (0 : Int) ≤ (j : Int) := by omega
      have hjN : (j : Int) < (N : Int) := by omega
      have hjN2 : j ≤ N := by omega
      by_cases hk : kw x = 19
      · have HT2 : Hid (T = (k + 1) + flW (bk l (aN l j))) := by have := HT.out; rw [f2 hk] at this; unfold Hid; omega
        have hs := HST.out j (by omega)
        have HPA2 : Hid (passB (hdK (bk l (aN l j))) = false) := hs.1
        have hAN : aN l j ≤ N := by have := hs.2; omega
        have hkN : k + 1 ≤ N := by have := HT2.out; have := HFB.out; omega
        have wk : IntKind.i64.wrap ((k : Int) + 1) = ((k + 1 : Nat) : Int) := by rw [IntKind.wrap_i64]; omega
        have HQ : Hid ((kw x == 19) = true) := by show _ = _; rw [hk]; rfl
        have HMS : Hid (N - (((k + 1 : Nat) : Int)).toNat < N - ((k : Int)).toNat) := by show _ < _; omega
        clear hk f1 f2 hs HT HPA hx hx' hj hv cx
        generalize kw x = q at *
        go_wp2_with fail
        refine C.mono ?_
        rintro e w3 ⟨⟨A, rfl, hA⟩, b3⟩
        clear C
        have q19 := hA.n19
        rw [HQ.out] at q19
        have HB3 : Hid (Below w.heap.size w w3) := HB.out.trans (b3.mono HB.out.size)
        clear b3 HB hc hA
        have C := HAI.out w3 j hjN2 HB3.out
        go_wp2_with fail
        refine C.mono ?_
        rintro e w4 ⟨rfl, b4⟩
        clear C
        have HB4 : Hid (Below w.heap.size w w4) := HB3.out.trans (b4.mono HB3.out.size)
        clear b4 HB3
        go_wp2
        exact ⟨⟨k + 1, aN l j, hAN, rfl, rfl, HT2, HPA2, HB4⟩, HMS.out⟩
      · have hTk : T = k := by have := HT.out; rw [f1 hk] at this; omega
        have HQ : Hid ((kw x == 19) = false) := by show _ = _; exact beq_eq_false_iff_ne.2 hk
        clear hk f1 f2 HT HPA hx hx' hj hv cx
        generalize kw x = q at *
        subst hTk
        go_wp2_with fail
        refine C.mono ?_
        rintro e w3 ⟨⟨A, rfl, hA⟩, b3⟩
        clear C
        have q19 := hA.n19
        rw [HQ.out] at q19
        have HB3 : Hid (Below w.heap.size w w3) := HB.out.trans (b3.mono HB.out.size)
        clear b3 HB hc hA
        go_wp2
        go_ret
        exact ⟨rfl, HB3.out⟩
end Go.Proofs.YtcmhkfiijdomiaaGreatDoor.wrd
end
