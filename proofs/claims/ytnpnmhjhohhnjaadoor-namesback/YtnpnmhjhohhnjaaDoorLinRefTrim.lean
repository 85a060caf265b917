/- What the document's trim answers of any text. -/
import Derived.Test.YtnpnmhjhohhnjaaDoorLinPure
set_option linter.unusedVariables false
set_option linter.unusedSimpArgs false
namespace Go.Proofs.YtnpnmhjhohhnjaaDoor.lin
open Go.RowKit

theorem blank_iff (x : UInt8) : blank x = ((x.toNat : Int) == 32 || (x.toNat : Int) == 9) := by
  by_cases h1 : x = 32
  · subst h1; rfl
  · by_cases h2 : x = 9
    · subst h2; rfl
    · have e1 : ((x.toNat : Int) == 32) = false := by
        rw [beq_eq_false_iff_ne]; intro e; exact h1 (UInt8.toNat_inj.1 (by have : (32 : UInt8).toNat = 32 := rfl; omega))
      have e2 : ((x.toNat : Int) == 9) = false := by
        rw [beq_eq_false_iff_ne]; intro e; exact h2 (UInt8.toNat_inj.1 (by have : (9 : UInt8).toNat = 9 := rfl; omega))
      rw [e1, e2]
      simp [blank, h1, h2]
theorem list_head (t : ByteArray) (h : 0 < t.size) : t.data.toList = t[0]'h :: t.data.toList.drop 1 := by
  have := drop_cons t 0 h
  rwa [List.drop_zero] at this
theorem ext_tail (t : ByteArray) (h : 0 < t.size) : (t.extract 1 t.size).data.toList = t.data.toList.drop 1 := by
  rw [ext_list, BA_data, List.take_of_length_le]
  rw [List.length_drop, size_list]; omega
theorem ext_init (t : ByteArray) : (t.extract 0 (t.size - 1)).data.toList = t.data.toList.take (t.size - 1) := by
  rw [ext_list, BA_data, List.drop_zero, Nat.sub_zero]
theorem list_last (t : ByteArray) (h : 0 < t.size) : t.data.toList = t.data.toList.take (t.size - 1) ++ [t[t.size - 1]'(by omega)] := by
  have h1 := take_snoc t 0 (t.size - 1) (by omega) (Nat.zero_le _)
  rw [List.drop_zero, Nat.sub_zero, Nat.sub_zero] at h1
  rw [← h1, List.take_of_length_le (by rw [size_list]; omega)]
theorem trimL_self (l : List UInt8) (h1 : ∀ x, l.head? = some x → blank x = false) (h2 : ∀ x, l.getLast? = some x → blank x = false) : trimL l = l := by
  rw [trimL_eq, dw_id l.reverse (by rw [List.head?_reverse]; exact h2), List.reverse_reverse, dw_id l h1]

set_option maxHeartbeats 1000000 in
set_option maxRecDepth 100000 in
theorem rtrim_any (s : ByteArray) (w : World) (hs : s.size ≤ 1099511627776) :
    Calls Tryd.prog 45 #[.string s] w fun e w' => e = .returned (.string (trim s)) ∧ w' = w := by
  have HR : Hid (trim s = BA (trimL s.data.toList)) := rfl
  go_enter Tryd.func45, Tryd.ntmps45
  go_wp2
  go_loopg [0] s.size (fun k v wr => ∃ t : ByteArray, v = .string t ∧ k = t.size ∧ t.size ≤ s.size ∧ Hid (trimL t.data.toList = trimL s.data.toList) ∧ wr = w)
  case atStart => exact ⟨s, rfl, rfl, Nat.le_refl _, rfl, rfl⟩
  case round =>
    obtain ⟨t, rfl, hgk, hts, HT, rfl⟩ := hrel
    have HGK : Hid (gk = t.size) := hgk
    clear hgk
    by_cases h0 : 0 < t.size
    · have hb := blank_iff (t[0]'h0)
      by_cases hbl : blank (t[0]'h0) = true
      · have HT2 : Hid (trimL (t.extract 1 t.size).data.toList = trimL s.data.toList) := by
          rw [Hid, ext_tail t h0, ← HT.out, list_head t h0, trimL_cons _ _ hbl, List.drop_one, List.tail_cons]
        have HS : Hid ((t.extract 1 t.size).size = t.size - 1) := by rw [Hid, ByteArray.size_extract]; omega
        rw [hbl] at hb
        clear hbl HT
        cases t1 : (((t[0]'h0).toNat : Int) == 32) with
        | true =>
          clear hb
          generalize hr : ((t[0]'h0).toNat : Int) = r at *
          go_wp2
          go_roundg (t.size - 1)
          case measure => have := HGK.out; omega
          case rel => exact ⟨t.extract 1 t.size, rfl, HS.out.symm, by rw [HS.out]; omega, HT2, rfl⟩
        | false =>
          have t2 : (((t[0]'h0).toNat : Int) == 9) = true := by rw [t1] at hb; simpa using hb.symm
          clear hb
          generalize hr : ((t[0]'h0).toNat : Int) = r at *
          go_wp2
          go_roundg (t.size - 1)
          case measure => have := HGK.out; omega
          case rel => exact ⟨t.extract 1 t.size, rfl, HS.out.symm, by rw [HS.out]; omega, HT2, rfl⟩
      · have HH : Hid (∀ x, t.data.toList.head? = some x → blank x = false) := by
          intro x hx
          rw [list_head t h0] at hx
          simp at hx
          subst hx
          simpa using hbl
        have hbf : blank (t[0]'h0) = false := by simpa using hbl
        rw [hbf] at hb
        have t1 : (((t[0]'h0).toNat : Int) == 32) = false := by cases h : (((t[0]'h0).toNat : Int) == 32); rfl; rw [h] at hb; cases hb
        have t2 : (((t[0]'h0).toNat : Int) == 9) = false := by rw [t1] at hb; simpa using hb.symm
        clear hb hbl hbf
        generalize hr : ((t[0]'h0).toNat : Int) = r at *
        go_wp2
        go_loopg [0] t.size (fun k v wr2 => ∃ q : ByteArray, v = .string q ∧ k = q.size ∧ q.size ≤ s.size ∧ Hid (trimL q.data.toList = trimL s.data.toList) ∧ Hid (∀ x, q.data.toList.head? = some x → blank x = false) ∧ wr2 = wr)
        case atStart => exact ⟨t, rfl, rfl, hts, HT, HH, rfl⟩
        case round =>
          clear HT HH
          obtain ⟨q, rfl, hgk2, hqs, HT, HH, rfl⟩ := hrel
          have HG2 : Hid (gk = q.size) := hgk2
          clear hgk2
          by_cases h0 : 0 < q.size
          · obtain ⟨n, hn⟩ : ∃ n, q.size = n + 1 := ⟨q.size - 1, by omega⟩
            have hlt : n < q.size := by omega
            have HLA : Hid (q.data.toList = q.data.toList.take n ++ [q[n]'hlt]) := by
              have h1 := take_snoc q 0 n hlt (Nat.zero_le _)
              rw [List.drop_zero, Nat.sub_zero, Nat.sub_zero, List.take_of_length_le (by rw [size_list]; omega)] at h1
              exact h1
            have hb := blank_iff (q[n]'hlt)
            cases hbl : blank (q[n]'hlt) with
            | true =>
              have HEX : Hid ((q.extract 0 n).data.toList = q.data.toList.take n) := by rw [Hid, ext_list, BA_data, List.drop_zero, Nat.sub_zero]
              have HT2 : Hid (trimL (q.extract 0 n).data.toList = trimL s.data.toList) := by
                rw [Hid, HEX.out, ← HT.out]
                conv => rhs; rw [HLA.out]
                rw [trimL_snoc _ _ hbl]
              have HH2 : Hid (∀ x, (q.extract 0 n).data.toList.head? = some x → blank x = false) := by
                intro x hx
                apply HH.out x
                rw [HEX.out] at hx
                rw [HLA.out, List.head?_append, hx]
                rfl
              have HS : Hid ((q.extract 0 n).size = n) := by rw [Hid, ByteArray.size_extract]; omega
              rw [hbl] at hb
              have hqs' : n + 1 ≤ s.size := by omega
              have HQ : Hid (gk = n + 1) := HG2.out.trans hn
              clear hbl HT HH HLA HEX hqs HG2
              cases t1 : (((q[n]'hlt).toNat : Int) == 32) with
              | true =>
                clear hb
                generalize hr : ((q[n]'hlt).toNat : Int) = r at *
                go_wp2
                go_roundg n
                case measure => have := HQ.out; omega
                case rel => exact ⟨q.extract 0 n, rfl, HS.out.symm, by rw [HS.out]; omega, HT2, HH2, rfl⟩
              | false =>
                have t2 : (((q[n]'hlt).toNat : Int) == 9) = true := by rw [t1] at hb; simpa using hb.symm
                clear hb
                generalize hr : ((q[n]'hlt).toNat : Int) = r at *
                go_wp2
                go_roundg n
                case measure => have := HQ.out; omega
                case rel => exact ⟨q.extract 0 n, rfl, HS.out.symm, by rw [HS.out]; omega, HT2, HH2, rfl⟩
            | false =>
              have HF : Hid (trim s = q) := by
                rw [Hid, HR.out, ← HT.out, trimL_self _ HH.out, BA_list]
                intro x hx
                rw [HLA.out, List.getLast?_append] at hx
                simp at hx
                subst hx
                exact hbl
              rw [hbl] at hb
              have t1 : (((q[n]'hlt).toNat : Int) == 32) = false := by cases h : (((q[n]'hlt).toNat : Int) == 32); rfl; rw [h] at hb; cases hb
              have t2 : (((q[n]'hlt).toNat : Int) == 9) = false := by rw [t1] at hb; simpa using hb.symm
              clear hb hbl HT HH HLA
              generalize hr : ((q[n]'hlt).toNat : Int) = r at *
              go_wp2
              go_ret
              exact ⟨by rw [HF.out]; rfl, rfl⟩
          · have HF : Hid (trim s = q) := by
              have : q.data.toList = [] := List.eq_nil_of_length_eq_zero (by rw [size_list]; omega)
              rw [Hid, HR.out, ← HT.out, this, ← BA_list q, this]
              rfl
            go_wp2
            go_ret
            exact ⟨by rw [HF.out]; rfl, rfl⟩
    · have HH : Hid (∀ x, t.data.toList.head? = some x → blank x = false) := by
        intro x hx
        have : t.data.toList = [] := List.eq_nil_of_length_eq_zero (by rw [size_list]; omega)
        rw [this] at hx
        cases hx
      go_wp2
      go_loopg [0] t.size (fun k v wr2 => ∃ q : ByteArray, v = .string q ∧ k = q.size ∧ q.size ≤ s.size ∧ Hid (trimL q.data.toList = trimL s.data.toList) ∧ Hid (∀ x, q.data.toList.head? = some x → blank x = false) ∧ wr2 = wr)
      case atStart => exact ⟨t, rfl, rfl, hts, HT, HH, rfl⟩
      case round =>
        clear HT HH
        obtain ⟨q, rfl, hgk2, hqs, HT, HH, rfl⟩ := hrel
        have HG2 : Hid (gk = q.size) := hgk2
        clear hgk2
        by_cases h0 : 0 < q.size
        · obtain ⟨n, hn⟩ : ∃ n, q.size = n + 1 := ⟨q.size - 1, by omega⟩
          have hlt : n < q.size := by omega
          have HLA : Hid (q.data.toList = q.data.toList.take n ++ [q[n]'hlt]) := by
            have h1 := take_snoc q 0 n hlt (Nat.zero_le _)
            rw [List.drop_zero, Nat.sub_zero, Nat.sub_zero, List.take_of_length_le (by rw [size_list]; omega)] at h1
            exact h1
          have hb := blank_iff (q[n]'hlt)
          cases hbl : blank (q[n]'hlt) with
          | true =>
            have HEX : Hid ((q.extract 0 n).data.toList = q.data.toList.take n) := by rw [Hid, ext_list, BA_data, List.drop_zero, Nat.sub_zero]
            have HT2 : Hid (trimL (q.extract 0 n).data.toList = trimL s.data.toList) := by
              rw [Hid, HEX.out, ← HT.out]
              conv => rhs; rw [HLA.out]
              rw [trimL_snoc _ _ hbl]
            have HH2 : Hid (∀ x, (q.extract 0 n).data.toList.head? = some x → blank x = false) := by
              intro x hx
              apply HH.out x
              rw [HEX.out] at hx
              rw [HLA.out, List.head?_append, hx]
              rfl
            have HS : Hid ((q.extract 0 n).size = n) := by rw [Hid, ByteArray.size_extract]; omega
            rw [hbl] at hb
            have hqs' : n + 1 ≤ s.size := by omega
            have HQ : Hid (gk = n + 1) := HG2.out.trans hn
            clear hbl HT HH HLA HEX hqs HG2
            cases t1 : (((q[n]'hlt).toNat : Int) == 32) with
            | true =>
              clear hb
              generalize hr : ((q[n]'hlt).toNat : Int) = r at *
              go_wp2
              go_roundg n
              case measure => have := HQ.out; omega
              case rel => exact ⟨q.extract 0 n, rfl, HS.out.symm, by rw [HS.out]; omega, HT2, HH2, rfl⟩
            | false =>
              have t2 : (((q[n]'hlt).toNat : Int) == 9) = true := by rw [t1] at hb; simpa using hb.symm
              clear hb
              generalize hr : ((q[n]'hlt).toNat : Int) = r at *
              go_wp2
              go_roundg n
              case measure => have := HQ.out; omega
              case rel => exact ⟨q.extract 0 n, rfl, HS.out.symm, by rw [HS.out]; omega, HT2, HH2, rfl⟩
          | false =>
            have HF : Hid (trim s = q) := by
              rw [Hid, HR.out, ← HT.out, trimL_self _ HH.out, BA_list]
              intro x hx
              rw [HLA.out, List.getLast?_append] at hx
              simp at hx
              subst hx
              exact hbl
            rw [hbl] at hb
            have t1 : (((q[n]'hlt).toNat : Int) == 32) = false := by cases h : (((q[n]'hlt).toNat : Int) == 32); rfl; rw [h] at hb; cases hb
            have t2 : (((q[n]'hlt).toNat : Int) == 9) = false := by rw [t1] at hb; simpa using hb.symm
            clear hb hbl HT HH HLA
            generalize hr : ((q[n]'hlt).toNat : Int) = r at *
            go_wp2
            go_ret
            exact ⟨by rw [HF.out]; rfl, rfl⟩
        · have HF : Hid (trim s = q) := by
            have : q.data.toList = [] := List.eq_nil_of_length_eq_zero (by rw [size_list]; omega)
            rw [Hid, HR.out, ← HT.out, this, ← BA_list q, this]
            rfl
          go_wp2
          go_ret
          exact ⟨by rw [HF.out]; rfl, rfl⟩
end Go.Proofs.YtnpnmhjhohhnjaaDoor.lin
