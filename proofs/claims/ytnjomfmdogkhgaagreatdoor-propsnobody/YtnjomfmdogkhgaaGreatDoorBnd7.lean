/- Texts that the proof leans on, one behind the other. -/
import Derived.Test.YtnjomfmdogkhgaaGreatDoorBnd4
import Derived.Test.YtnjomfmdogkhgaaGreatDoorBnd1
import Derived.WalkSmall
import Derived.Deep.LoopGhost
import Derived.Lib.OthersKept
import Derived.Maps.AppendAt

section
/- What the document's trim answers of any text. -/
set_option linter.unusedVariables false
set_option linter.unusedSimpArgs false
namespace Go.Proofs.YtnjomfmdogkhgaaGreatDoor.lin
open Go.RowKit

theorem blank_iff (x : UInt8) : blank x = ((x.toNat : Int) == 32 || (x.toNat : Int) == 9) := by
  by_cases h1 : x = 32
  · subst h1; rfl
  · by_cases h2 : x = 9
    · subst h2; rfl
    · have e1 : ((x.toNat : Int) == 32) = false := by
        rw [beq_eq_false_iff_ne]; intro e; exact h1 (UInt8.toNat_inj.1 (by have : (32 : UInt8).toNat = 32 := rfl; omega))
      have e2 : ((x.toNat : Int) == 9) = false := by
        rw [beq_eq_false_iff_ne]; intro e; exact h2 (UInt8.toNat_inj.1 (by have : (9 : UInt8).toNat = 9 := rfl; omega))
      rw [e1, e2]
      simp [blank, h1, h2]
theorem list_head (t : ByteArray) (h : 0 < t.size) : t.data.toList = t[0]'h :: t.data.toList.drop 1 := by
  have := drop_cons t 0 h
  rwa [List.drop_zero] at this
theorem ext_tail (t : ByteArray) (h : 0 < t.size) : (t.extract 1 t.size).data.toList = t.data.toList.drop 1 := by
  rw [ext_list, BA_data, List.take_of_length_le]
  rw [List.length_drop, size_list]; omega
theorem ext_init (t : ByteArray) : (t.extract 0 (t.size - 1)).data.toList = t.data.toList.take (t.size - 1) := by
  rw [ext_list, BA_data, List.drop_zero, Nat.sub_zero]
theorem list_last (t : ByteArray) (h : 0 < t.size) : t.data.toList = t.data.toList.take (t.size - 1) ++ [t[t.size - 1]'(by omega)] := by
  have h1 := take_snoc t 0 (t.size - 1) (by omega) (Nat.zero_le _)
  rw [List.drop_zero, Nat.sub_zero, Nat.sub_zero] at h1
  rw [← h1, List.take_of_length_le (by rw [size_list]; omega)]
theorem trimL_self (l : List UInt8) (h1 : ∀ x, l.head? = some x → blank x = false) (h2 : ∀ x, l.getLast? = some x → blank x = false) : trimL l = l := by
  rw [trimL_eq, dw_id l.reverse (by rw [List.head?_reverse]; exact h2), List.reverse_reverse, dw_id l h1]

set_option maxHeartbeats 1000000 in
set_option maxRecDepth 100000 in
theorem rtrim_any (s : ByteArray) (w : World) (hs : s.size ≤ 1099511627776) :
    Calls Tryz.prog 143 #[.string s] w fun e w' => e = .returned (.string (trim s)) ∧ w' = w := by
  have HR : Hid (trim s = BA (trimL s.data.toList)) := rfl
  go_enter Tryz.func143, Tryz.ntmps143
  go_wp2
  go_loopg [0] s.size (fun k v wr => ∃ t : ByteArray, v = .string t ∧ k = t.size ∧ t.size ≤ s.size ∧ Hid (trimL t.data.toList = trimL s.data.toList) ∧ wr = w)
  case atStart => exact ⟨s, rfl, rfl, Nat.le_refl _, rfl, rfl⟩
  case round =>
    obtain ⟨t, rfl, hgk, hts, HT, rfl⟩ := hrel
    have HGK : Hid (gk = t.size) := hgk
    clear hgk
    by_cases h0 : 0 < t.size
    · have hb := blank_iff (t[0]'h0)
      by_cases hbl : blank (t[0]'h0) = true
      · have HT2 : Hid (trimL (t.extract 1 t.size).data.toList = trimL s.data.toList) := by
          rw [Hid, ext_tail t h0, ← HT.out, list_head t h0, trimL_cons _ _ hbl, List.drop_one, List.tail_cons]
        have HS : Hid ((t.extract 1 t.size).size = t.size - 1) := by rw [Hid, ByteArray.size_extract]; omega
        rw [hbl] at hb
        clear hbl HT
        cases t1 : (((t[0]'h0).toNat : Int) == 32) with
        | true =>
          clear hb
          generalize hr : ((t[0]'h0).toNat : Int) = r at *
          go_wp2
          go_roundg (t.size - 1)
          case measure => have := HGK.out; omega
          case rel => exact ⟨t.extract 1 t.size, rfl, HS.out.symm, by rw [HS.out]; omega, HT2, rfl⟩
        | false =>
          have t2 : (((t[0]'h0).toNat : Int) == 9) = true := by rw [t1] at hb; simpa using hb.symm
          clear hb
          generalize hr : ((t[0]'h0).toNat : Int) = r at *
          go_wp2
          go_roundg (t.size - 1)
          case measure => have := HGK.out; omega
          case rel => exact ⟨t.extract 1 t.size, rfl, HS.out.symm, by rw [HS.out]; omega, HT2, rfl⟩
      · have HH : Hid (∀ x, t.data.toList.head? = some x → blank x = false) := by
          intro x hx
          rw [list_head t h0] at hx
          simp at hx
          subst hx
          simpa using hbl
        have hbf : blank (t[0]'h0) = false := by simpa using hbl
        rw [hbf] at hb
        have t1 : (((t[0]'h0).toNat : Int) == 32) = false := by cases h : (((t[0]'h0).toNat : Int) == 32); rfl; rw [h] at hb; cases hb
        have t2 : (((t[0]'h0).toNat : Int) == 9) = false := by rw [t1] at hb; simpa using hb.symm
        clear hb hbl hbf
        generalize hr : ((t[0]'h0).toNat : Int) = r at *
        go_wp2
        go_loopg [0] t.size (fun k v wr2 => ∃ q : ByteArray, v = .string q ∧ k = q.size ∧ q.size ≤ s.size ∧ Hid (trimL q.data.toList = trimL s.data.toList) ∧ Hid (∀ x, q.data.toList.head? = some x → blank x = false) ∧ wr2 = wr)
        case atStart => exact ⟨t, rfl, rfl, hts, HT, HH, rfl⟩
        case round =>
          clear HT HH
          obtain ⟨q, rfl, hgk2, hqs, HT, HH, rfl⟩ := hrel
          have HG2 : Hid (gk = q.size) := hgk2
          clear hgk2
          by_cases h0 : 0 < q.size
          · obtain ⟨n, hn⟩ : ∃ n, q.size = n + 1 := ⟨q.size - 1, by omega⟩
            have hlt : n < q.size := by omega
            have HLA : Hid (q.data.toList = q.data.toList.take n ++ [q[n]'hlt]) := by
              have h1 := take_snoc q 0 n hlt (Nat.zero_le _)
              rw [List.drop_zero, Nat.sub_zero, Nat.sub_zero, List.take_of_length_le (by rw [size_list]; omega)] at h1
              exact h1
            have hb := blank_iff (q[n]'hlt)
            cases hbl : blank (q[n]'hlt) with
            | true =>
              have HEX : Hid ((q.extract 0 n).data.toList = q.data.toList.take n) := by rw [Hid, ext_list, BA_data, List.drop_zero, Nat.sub_zero]
              have HT2 : Hid (trimL (q.extract 0 n).data.toList = trimL s.data.toList) := by
                rw [Hid, HEX.out, ← HT.out]
                conv => rhs; rw [HLA.out]
                rw [trimL_snoc _ _ hbl]
              have HH2 : Hid (∀ x, (q.extract 0 n).data.toList.head? = some x → blank x = false) := by
                intro x hx
                apply HH.out x
                rw [HEX.out] at hx
                rw [HLA.out, List.head?_append, hx]
                rfl
              have HS : Hid ((q.extract 0 n).size = n) := by rw [Hid, ByteArray.size_extract]; omega
              rw [hbl] at hb
              have hqs' : n + 1 ≤ s.size := by omega
              have HQ : Hid (gk = n + 1) := HG2.out.trans hn
              clear hbl HT HH HLA HEX hqs HG2
              cases t1 : (((q[n]'hlt).toNat : Int) == 32) with
              | true =>
                clear hb
                generalize hr : ((q[n]'hlt).toNat : Int) = r at *
                go_wp2
                go_roundg n
                case measure => have := HQ.out; omega
                case rel => exact ⟨q.extract 0 n, rfl, HS.out.symm, by rw [HS.out]; omega, HT2, HH2, rfl⟩
              | false =>
                have t2 : (((q[n]'hlt).toNat : Int) == 9) = true := by rw [t1] at hb; simpa using hb.symm
                clear hb
                generalize hr : ((q[n]'hlt).toNat : Int) = r at *
                go_wp2
                go_roundg n
                case measure => have := HQ.out; omega
                case rel => exact ⟨q.extract 0 n, rfl, HS.out.symm, by rw [HS.out]; omega, HT2, HH2, rfl⟩
            | false =>
              have HF : Hid (trim s = q) := by
                rw [Hid, HR.out, ← HT.out, trimL_self _ HH.out, BA_list]
                intro x hx
                rw [HLA.out, List.getLast?_append] at hx
                simp at hx
                subst hx
                exact hbl
              rw [hbl] at hb
              have t1 : (((q[n]'hlt).toNat : Int) == 32) = false := by cases h : (((q[n]'hlt).toNat : Int) == 32); rfl; rw [h] at hb; cases hb
              have t2 : (((q[n]'hlt).toNat : Int) == 9) = false := by rw [t1] at hb; simpa using hb.symm
              clear hb hbl HT HH HLA
              generalize hr : ((q[n]'hlt).toNat : Int) = r at *
              go_wp2
              go_ret
              exact ⟨by rw [HF.out]; rfl, rfl⟩
          · have HF : Hid (trim s = q) := by
              have : q.data.toList = [] := List.eq_nil_of_length_eq_zero (by rw [size_list]; omega)
              rw [Hid, HR.out, ← HT.out, this, ← BA_list q, this]
              rfl
            go_wp2
            go_ret
            exact ⟨by rw [HF.out]; rfl, rfl⟩
    · have HH : Hid (∀ x, t.data.toList.head? = some x → blank x = false) := by
        intro x hx
        have : t.data.toList = [] := List.eq_nil_of_length_eq_zero (by rw [size_list]; omega)
        rw [this] at hx
        cases hx
      go_wp2
      go_loopg [0] t.size (fun k v wr2 => ∃ q : ByteArray, v = .string q ∧ k = q.size ∧ q.size ≤ s.size ∧ Hid (trimL q.data.toList = trimL s.data.toList) ∧ Hid (∀ x, q.data.toList.head? = some x → blank x = false) ∧ wr2 = wr)
      case atStart => exact ⟨t, rfl, rfl, hts, HT, HH, rfl⟩
      case round =>
        clear HT HH
        obtain ⟨q, rfl, hgk2, hqs, HT, HH, rfl⟩ := hrel
        have HG2 : Hid (gk = q.size) := hgk2
        clear hgk2
        by_cases h0 : 0 < q.size
        · obtain ⟨n, hn⟩ : ∃ n, q.size = n + 1 := ⟨q.size - 1, by omega⟩
          have hlt : n < q.size := by omega
          have HLA : Hid (q.data.toList = q.data.toList.take n ++ [q[n]'hlt]) := by
            have h1 := take_snoc q 0 n hlt (Nat.zero_le _)
            rw [List.drop_zero, Nat.sub_zero, Nat.sub_zero, List.take_of_length_le (by rw [size_list]; omega)] at h1
            exact h1
          have hb := blank_iff (q[n]'hlt)
          cases hbl : blank (q[n]'hlt) with
          | true =>
            have HEX : Hid ((q.extract 0 n).data.toList = q.data.toList.take n) := by rw [Hid, ext_list, BA_data, List.drop_zero, Nat.sub_zero]
            have HT2 : Hid (trimL (q.extract 0 n).data.toList = trimL s.data.toList) := by
              rw [Hid, HEX.out, ← HT.out]
              conv => rhs; rw [HLA.out]
              rw [trimL_snoc _ _ hbl]
            have HH2 : Hid (∀ x, (q.extract 0 n).data.toList.head? = some x → blank x = false) := by
              intro x hx
              apply HH.out x
              rw [HEX.out] at hx
              rw [HLA.out, List.head?_append, hx]
              rfl
            have HS : Hid ((q.extract 0 n).size = n) := by rw [Hid, ByteArray.size_extract]; omega
            rw [hbl] at hb
            have hqs' : n + 1 ≤ s.size := by omega
            have HQ : Hid (gk = n + 1) := HG2.out.trans hn
            clear hbl HT HH HLA HEX hqs HG2
            cases t1 : (((q[n]'hlt).toNat : Int) == 32) with
            | true =>
              clear hb
              generalize hr : ((q[n]'hlt).toNat : Int) = r at *
              go_wp2
              go_roundg n
              case measure => have := HQ.out; omega
              case rel => exact ⟨q.extract 0 n, rfl, HS.out.symm, by rw [HS.out]; omega, HT2, HH2, rfl⟩
            | false =>
              have t2 : (((q[n]'hlt).toNat : Int) == 9) = true := by rw [t1] at hb; simpa using hb.symm
              clear hb
              generalize hr : ((q[n]'hlt).toNat : Int) = r at *
              go_wp2
              go_roundg n
              case measure => have := HQ.out; omega
              case rel => exact ⟨q.extract 0 n, rfl, HS.out.symm, by rw [HS.out]; omega, HT2, HH2, rfl⟩
          | false =>
            have HF : Hid (trim s = q) := by
              rw [Hid, HR.out, ← HT.out, trimL_self _ HH.out, BA_list]
              intro x hx
              rw [HLA.out, List.getLast?_append] at hx
              simp at hx
              subst hx
              exact hbl
            rw [hbl] at hb
            have t1 : (((q[n]'hlt).toNat : Int) == 32) = false := by cases h : (((q[n]'hlt).toNat : Int) == 32); rfl; rw [h] at hb; cases hb
            have t2 : (((q[n]'hlt).toNat : Int) == 9) = false := by rw [t1] at hb; simpa using hb.symm
            clear hb hbl HT HH HLA
            generalize hr : ((q[n]'hlt).toNat : Int) = r at *
            go_wp2
            go_ret
            exact ⟨by rw [HF.out]; rfl, rfl⟩
        · have HF : Hid (trim s = q) := by
            have : q.data.toList = [] := List.eq_nil_of_length_eq_zero (by rw [size_list]; omega)
            rw [Hid, HR.out, ← HT.out, this, ← BA_list q, this]
            rfl
          go_wp2
          go_ret
          exact ⟨by rw [HF.out]; rfl, rfl⟩
end Go.Proofs.YtnjomfmdogkhgaaGreatDoor.lin
end

section
/- What the document's cut answers of any text: its parts between a byte. -/
set_option linter.unusedVariables false
set_option linter.unusedSimpArgs false
namespace Go.Proofs.YtnjomfmdogkhgaaGreatDoor.lin
open Go.RowKit

theorem infoStr2 : (Tryz.prog.info? 9).map (fun i => (i.zero, i.size, i.bytes)) = some (some (.string ByteArray.empty), 1, 16) := by kernel_rfl
theorem own_slice2 {w : World} {B e size n : Nat} {v : Value} {xs : List Value} (h : w.ownsRow B e size v n xs) : ∃ a c, v = .slice a n c := by
  rcases h.2 with hn | ⟨g, cap, cur, rfl, _⟩
  · obtain ⟨rfl, rfl⟩ := hn; exact ⟨_, _, rfl⟩
  · exact ⟨_, _, rfl⟩

set_option maxHeartbeats 2000000 in
set_option maxRecDepth 100000 in
theorem rcut_any (s : ByteArray) (b : Nat) (w : World) (hs : s.size ≤ 1099511627776) :
    Calls Tryz.prog 109 #[.string s, .int .u8 b] w fun e w' => ∃ v, e = .returned v ∧ w'.ownsRow w.heap.size 9 1 v (cutV s b).length ((cutV s b).map Value.string) ∧ Below w.heap.size w w' := by
  obtain ⟨i0, hi, hz0, hy1, hz2⟩ := info_parts infoStr2
  go_enter Tryz.func109, Tryz.ntmps109
  go_wp2
  go_loopg [5, 6, 7] s.size (fun k v t e wr => ∃ (p st : Nat) (out : List ByteArray), k = s.size - p ∧ t = .int .i64 st ∧ e = .int .i64 p ∧ st ≤ p ∧ p ≤ s.size ∧ out.length ≤ st ∧ wr.ownsRow w.heap.size 9 1 v out.length (out.map Value.string) ∧ Hid (out ++ cuts s b (s.size - p) p st = cutV s b) ∧ Below w.heap.size w wr)
  case atStart => exact ⟨0, 0, [], by omega, rfl, rfl, Nat.zero_le _, Nat.zero_le _, Nat.le_refl _, World.ownsRow_nil _ _ _ _, rfl, Below.refl _ _⟩
  case round =>
    obtain ⟨p, st, out, hgk, rfl, rfl, hst, hp, hol, hown, HSC, hbel⟩ := hrel
    have HGK : Hid (gk = s.size - p) := hgk
    clear hgk
    obtain ⟨sa, sc, rfl⟩ := own_slice2 hown
    have HW : Hid (∀ k, (Value.slice sa out.length sc).ownBlock = some k → w.heap.size ≤ k) := fun k e => (hown.lt _ e).1
    have hs3 := hbel.size
    by_cases hlt : p < s.size
    · have he := at8_eq s p hlt
      by_cases hb : (s[p]'hlt).toNat = b
      · have t1 : ((((s[p]'hlt).toNat : Nat) : Int) == (b : Int)) = true := by simp; omega
        have HS2 : Hid ((out ++ [s.extract st p]) ++ cuts s b (s.size - (p + 1)) (p + 1) (p + 1) = cutV s b) := by
          have := cuts_hit s b (s.size - p) p st (by omega) (by rw [he]; omega)
          rw [show s.size - p - 1 = s.size - (p + 1) from by omega] at this
          rw [Hid, ← HSC.out, this, List.append_assoc]; rfl
        clear HSC he
        generalize hr : (s[p]'hlt).toNat = r at *
        clear hb
        generalize ht : s.extract st p = t at *
        go_wp2_with (at_builtin; refine wpList_append_own _ rfl _ _ 45 rfl w.heap.size 9 i0 (.string ByteArray.empty) 1 16 Tryz.underlying45 hi hz0 hy1 hz2 rfl (by decide) _ _ _ rfl (hown.alloc _) ⟨wr.heap.size, 0, none⟩ 1 1 [.string t] rfl rfl (cell_one_new _ _ _) (by simp [Value.oneCell']) (by unfold maxLen; omega) (by omega) (by simp; omega) ?_)
        intro v' w3 hown4 hgrow _
        have R1 := (hbel.alloc hs3 (.cells #[.string t] 9)).grown hgrow (by simp; omega) HW.out
        have R3 : w3.ownsRow w.heap.size 9 1 v' (out ++ [t]).length ((out ++ [t]).map Value.string) := by
          rw [List.length_append, List.map_append]; exact hown4
        clear hgrow hown hown4
        go_wp2
        go_roundg (s.size - (p + 1))
        case measure => have := HGK.out; omega
        case rel => exact ⟨p + 1, p + 1, out ++ [t], rfl, by go_num, by go_num, Nat.le_refl _, by omega, by simp; omega, R3, HS2, R1⟩
      · have t1 : ((((s[p]'hlt).toNat : Nat) : Int) == (b : Int)) = false := by simp; omega
        have HS2 : Hid (out ++ cuts s b (s.size - (p + 1)) (p + 1) st = cutV s b) := by
          have := cuts_not s b (s.size - p) p st (by omega) (by rw [he]; omega)
          rw [show s.size - p - 1 = s.size - (p + 1) from by omega] at this
          rw [Hid, ← HSC.out, this]
        clear HSC he
        generalize hr : (s[p]'hlt).toNat = r at *
        clear hb
        go_wp2
        go_roundg (s.size - (p + 1))
        case measure => have := HGK.out; omega
        case rel => exact ⟨p + 1, st, out, rfl, rfl, by go_num, by omega, by omega, hol, hown, HS2, hbel⟩
    · obtain rfl : p = s.size := by omega
      have HF : Hid (out ++ [s.extract st s.size] = cutV s b) := by
        rw [Hid, ← HSC.out, Nat.sub_self]; rfl
      clear HSC
      generalize ht : s.extract st s.size = t at *
      go_wp2_with (at_builtin; refine wpList_append_own _ rfl _ _ 45 rfl w.heap.size 9 i0 (.string ByteArray.empty) 1 16 Tryz.underlying45 hi hz0 hy1 hz2 rfl (by decide) _ _ _ rfl (hown.alloc _) ⟨wr.heap.size, 0, none⟩ 1 1 [.string t] rfl rfl (cell_one_new _ _ _) (by simp [Value.oneCell']) (by unfold maxLen; omega) (by omega) (by simp; omega) ?_)
      intro v' w3 hown4 hgrow _
      have R1 := (hbel.alloc hs3 (.cells #[.string t] 9)).grown hgrow (by simp; omega) HW.out
      clear hgrow hown
      go_wp2
      go_ret
      exact ⟨_, rfl, by rw [← HF.out, List.length_append, List.map_append]; exact hown4, R1⟩
end Go.Proofs.YtnjomfmdogkhgaaGreatDoor.lin
end

section
/- What the document's fields answers of any line: the same as lines.fieldsOf. -/
set_option linter.unusedVariables false
set_option linter.unusedSimpArgs false
namespace Go.Proofs.YtnjomfmdogkhgaaGreatDoor.lin
open Go.RowKit

/-- A row of strings: the slice, and each string where it lies. -/
theorem strRow {w : World} {base : Nat} {v : Value} {xs : List ByteArray} (h : w.ownsRow base 9 1 v xs.length (xs.map Value.string)) :
    ∃ a c, v = .slice a xs.length c ∧ (0 < xs.length → ∃ g, a = some ⟨g, 0, none⟩ ∧ base ≤ g ∧ g < w.heap.size ∧ xs.length ≤ c ∧ c ≤ maxLen ∧ (∃ cur : Array Value, w.heap[g]? = some (.cells cur 9 (0, 0)) ∧ ∀ (i : Nat) (x : ByteArray), xs[i]? = some x → cur[i]? = some (Value.string x)) ∧ ∀ (i : Nat) (x : ByteArray), xs[i]? = some x → w.cell? ⟨g, i, none⟩ = some (.string x)) := by
  rcases h.2 with hn | ⟨g, cap, cur, rfl, hg, hgg, h3, h4, h5, h6⟩
  · obtain ⟨rfl, h0⟩ := hn
    rw [h0]
    exact ⟨_, _, rfl, fun h => by omega⟩
  · have hc : ∀ (i : Nat) (x : ByteArray), xs[i]? = some x → cur[i]? = some (Value.string x) := by
      intro i x hx
      have hi : i < xs.length * 1 := by have := (List.getElem?_eq_some_iff.1 hx).1; omega
      rw [← Array.getElem?_toList, ← List.getElem?_take_of_lt hi, h6, List.getElem?_map, hx]
      rfl
    exact ⟨_, _, rfl, fun _ => ⟨g, rfl, hg, (Array.getElem?_eq_some_iff.1 hgg).1, h3, h4, ⟨cur, hgg, hc⟩, fun i x hx => by rw [cell_of_row w g i cur _ _ hgg]; exact hc i x hx⟩⟩
theorem own_lower {w : World} {B B2 e size n : Nat} {v : Value} {xs : List Value} (h : w.ownsRow B2 e size v n xs) (hb : B ≤ B2) : w.ownsRow B e size v n xs := by
  refine ⟨h.1, ?_⟩
  rcases h.2 with hn | ⟨g, cap, cur, rfl, hg, rest⟩
  · exact .inl hn
  · exact .inr ⟨g, cap, cur, rfl, by omega, rest⟩

theorem cutV_len2 (s : ByteArray) (b : Int) : (cutV s b).length ≤ s.size + 1 := cuts_len s b s.size 0 0
theorem cutV_head (s : ByteArray) (b : UInt8) : (cutV s (b.toNat : Int))[0]? = some (BA (s.data.toList.takeWhile (· ≠ b))) ∧ 0 < (cutV s (b.toNat : Int)).length := by
  rw [cutV_list, ← cutL_head]
  cases hc : cutL b s.data.toList with
  | nil => exact absurd hc (cutL_ne _ _)
  | cons x t => exact ⟨rfl, by simp⟩
theorem fieldsV_ref (s : ByteArray) : fieldsV s = if trim (BA (s.data.toList.takeWhile (· ≠ 35))) = BA [] then [] else (cutV (trim (BA (s.data.toList.takeWhile (· ≠ 35)))) 59).map trim := by
  have h59 := cutV_list (trim (BA (s.data.toList.takeWhile (· ≠ 35)))) 59
  rw [fieldsV_list, fieldsL_ref]
  rw [trim_BA] at h59 ⊢
  rw [BA_data] at h59
  have h59' : cutV (BA (trimL (s.data.toList.takeWhile (· ≠ 35)))) 59 = (cutL 59 (trimL (s.data.toList.takeWhile (· ≠ 35)))).map BA := h59
  rw [h59']
  generalize trimL (s.data.toList.takeWhile (· ≠ 35)) = t
  by_cases ht : t = []
  · rw [if_pos ht, if_pos (by rw [ht])]; rfl
  · rw [if_neg ht, if_neg (fun e => ht (by have := congrArg (fun x : ByteArray => x.data.toList) e; exact this)), List.map_map, List.map_map]
    rfl

set_option maxHeartbeats 2000000 in
set_option maxRecDepth 100000 in
theorem rfields_any (s : ByteArray) (w : World) (hs : s.size ≤ 1073741824) :
    Calls Tryz.prog 110 #[.string s] w fun e w' => ∃ v, e = .returned v ∧ w'.ownsRow w.heap.size 9 1 v (fieldsV s).length ((fieldsV s).map Value.string) ∧ Below w.heap.size w w' := by
  obtain ⟨i0, hi, hz0, hy1, hz2⟩ := info_parts infoStr2
  have HF : Hid (fieldsV s = if trim (BA (s.data.toList.takeWhile (· ≠ 35))) = BA [] then [] else (cutV (trim (BA (s.data.toList.takeWhile (· ≠ 35)))) 59).map trim) := fieldsV_ref s
  have RC := rcut_any s 35 w (by omega)
  have hch := cutV_head s 35
  have hh2 : (BA (s.data.toList.takeWhile (· ≠ 35))).size ≤ s.size := by
    rw [BA_size, ← size_list]; exact (List.takeWhile_prefix _).length_le
  go_enter Tryz.func110, Tryz.ntmps110
  go_wp2_with fail
  refine RC.mono ?_
  rintro e w1 ⟨v, rfl, hown, b1⟩
  obtain ⟨a, c, rfl, hrow⟩ := strRow hown
  have hlen : 0 < (cutV s (35 : Int)).length := hch.2
  obtain ⟨g, rfl, _, hg, _, _, _, hcell⟩ := hrow hlen
  have c0 := hcell 0 _ hch.1
  clear hcell hrow hown hch RC
  generalize hh : BA (s.data.toList.takeWhile (· ≠ 35)) = h at *
  clear hh
  generalize hL : (cutV s ((35 : Nat) : Int)).length = L at *
  have TR := rtrim_any h w1 (by omega)
  have hts := trim_size h
  generalize htt : trim h = t at *
  clear htt
  go_wp2_with fail
  refine TR.mono ?_
  rintro e w1' ⟨rfl, hw1⟩
  subst hw1
  clear TR c0
  by_cases hz : t.size = 0
  · have z2 : t.toList.isEmpty = true := isEmpty_of hz
    have HE : Hid (fieldsV s = []) := by
      rw [Hid, HF.out, if_pos]
      have hl : t.data.toList = [] := List.eq_nil_of_length_eq_zero (by rw [size_list]; exact hz)
      rw [← BA_list t, hl]
    go_wp2
    go_ret
    exact ⟨_, rfl, by rw [HE.out]; exact World.ownsRow_nil _ _ _ _, b1⟩
  · have z2 : t.toList.isEmpty = false := isEmpty_not hz
    have HE : Hid (fieldsV s = (cutV t 59).map trim) := by
      rw [Hid, HF.out, if_neg]
      intro e
      rw [e] at hz
      exact hz rfl
    have RC := rcut_any t 59 w1' (by omega)
    clear HF
    go_wp2_with fail
    refine RC.mono ?_
    rintro e w2 ⟨v, rfl, hown, b2⟩
    have b12 := b1.trans (b2.mono b1.size)
    obtain ⟨a, c2, rfl, hrow⟩ := strRow hown
    clear RC hown
    have hpos : 0 < (cutV t ((59 : Nat) : Int)).length := (cutV_head t 59).2
    obtain ⟨g2, rfl, _, hg2, _, _, _, hcell⟩ := hrow hpos
    have HC : Hid (∀ i x, (cutV t 59)[i]? = some x → w2.cell? ⟨g2, i, none⟩ = some (.string x)) := hcell
    have HN : Hid (∀ i, i < (cutV t 59).length → ∃ x, (cutV t 59)[i]? = some x ∧ (cutV t 59).take (i + 1) = (cutV t 59).take i ++ [x]) := fun i h => ⟨_, List.getElem?_eq_getElem h, by rw [List.take_add_one, List.getElem?_eq_getElem h]; rfl⟩
    have HSZ : Hid (∀ x ∈ cutV t 59, x.size ≤ t.size) := fun x hx => cuts_size _ _ _ _ _ x hx
    have hcl := cutV_len2 t 59
    clear hrow hcell hpos
    have e59 : cutV t ((59 : Nat) : Int) = cutV t 59 := rfl
    rw [e59]
    clear e59
    generalize cutV t 59 = cs at *
    go_wp2
    go_loopw [3, 16] (fun v i wr => ∃ k : Nat, k ≤ cs.length ∧ i = .int .i64 k ∧ wr.ownsRow w2.heap.size 9 1 v ((cs.take k).map trim).length (((cs.take k).map trim).map Value.string) ∧ Below w2.heap.size w2 wr) (fun _ i _ => cs.length - (RowKit.intOf i).toNat)
    case atStart => exact ⟨0, Nat.zero_le _, rfl, World.ownsRow_nil _ _ _ _, Below.refl _ _⟩
    case round =>
      obtain ⟨k, hk, rfl, hown, hbel⟩ := hrel
      by_cases hlt : k < cs.length
      · obtain ⟨x, hx, htk⟩ := HN.out k hlt
        have hlt' : (k : Int) < (cs.length : Int) := by omega
        have cx : wr.cell? ⟨g2, k, none⟩ = some (.string x) := (hbel.cell (p := ⟨g2, k, none⟩) hg2).trans (HC.out k x hx)
        have hxs := HSZ.out x (List.mem_of_getElem? hx)
        have HTK : Hid ((cs.take (k + 1)).map trim = (cs.take k).map trim ++ [trim x]) := by rw [Hid, htk, List.map_append]; rfl
        have hlk : ((cs.take k).map trim).length = k := by simp; omega
        have HW : Hid (∀ j, u3.ownBlock = some j → w2.heap.size ≤ j) := fun j e => (hown.lt _ e).1
        have TX := rtrim_any x wr (by omega)
        obtain ⟨sa, sc, rfl⟩ := own_slice2 hown
        generalize (cs.take k).map trim = D at *
        generalize trim x = tx at *
        subst hlk
        clear htk hx
        have hbs := hbel.size
        go_wp2_with fail
        refine TX.mono ?_
        rintro e wr' ⟨rfl, hwr⟩
        subst hwr
        clear TX
        go_wp2_with (at_builtin; refine wpList_append_own _ rfl _ _ 45 rfl w2.heap.size 9 i0 (.string ByteArray.empty) 1 16 Tryz.underlying45 hi hz0 hy1 hz2 rfl (by decide) _ _ _ rfl (hown.alloc _) ⟨wr'.heap.size, 0, none⟩ 1 1 [.string tx] rfl rfl (cell_one_new _ _ _) (by simp [Value.oneCell']) (by unfold maxLen; omega) (by omega) (by simp; omega) ?_)
        intro v' w3 hown4 hgrow _
        have R1 := (hbel.alloc hbs (.cells #[.string tx] 9)).grown hgrow (by simp; omega) HW.out
        have R3 : w3.ownsRow w2.heap.size 9 1 v' ((cs.take (D.length + 1)).map trim).length (((cs.take (D.length + 1)).map trim).map Value.string) := by
          rw [HTK.out, List.length_append, List.map_append]; exact hown4
        clear hgrow hown hown4 HTK hbel
        go_wp2
        go_roundw
        case rel => exact ⟨D.length + 1, by omega, by go_num, R3, R1⟩
        case measure => simp [RowKit.intOf]; omega
      · obtain rfl : k = cs.length := by omega
        rw [List.take_length] at hown
        have b3 := b12.trans (hbel.mono b12.size)
        go_wp2
        go_ret
        exact ⟨_, rfl, by rw [HE.out]; exact own_lower hown b12.size, b3⟩
end Go.Proofs.YtnjomfmdogkhgaaGreatDoor.lin
end
