/- What the document's Loose answers of any string: the same. -/
import Derived.Test.YtnpnmhjhohhnjaaDoorNamLoose
import Derived.Test.YtnpnmhjhohhnjaaDoorLinRefTrim
import Derived.Lib.AppendStr
set_option linter.unusedVariables false
set_option linter.unusedSimpArgs false
namespace Go.Proofs.YtnpnmhjhohhnjaaDoor.nam
open Go.RowKit lin

theorem BA_app (a b : List UInt8) : BA a ++ BA b = BA (a ++ b) := by
  apply ByteArray.ext
  show (BA a ++ BA b).data = _
  rw [ByteArray.data_append]
  simp [BA]
theorem ext_one (s : ByteArray) (k : Nat) (h : k < s.size) : s.extract k (k + 1) = BA [s[k]'h] := by
  rw [ext_list, drop_cons s k h]
  simp

theorem conv_one (wr : World) (y : Int) (x : Nat) (h : y = x) : (convert 39 9 (.slice (some ⟨wr.heap.size, 0, none⟩) 1 1)).run Tryd.prog (wr.alloc (.cells #[.int .u8 y] 5)) = .ok (.string (BA [UInt8.ofNat x])) (wr.alloc (.cells #[.int .u8 y] 5)) := by
  have hc : ∀ i, i < 1 → (wr.alloc (.cells #[.int .u8 y] 5)).cell? ⟨wr.heap.size, 0 + i, none⟩ = some (.int .u8 (([y] : List Int).getD i 0)) := fun i hi => by
    obtain rfl : i = 0 := by omega
    exact cell_one_new wr (.int .u8 y) 5 0 _ rfl
  have := run_convert_bytes_arg (P := Tryd.prog) (wr.alloc (.cells #[.int .u8 y] 5)) 39 5 Tryd.underlying39 Tryd.underlying5 wr.heap.size 0 1 1 [y] rfl hc 9 Tryd.underlying9
  rw [this, h]
  rfl

set_option maxHeartbeats 1500000 in
set_option maxRecDepth 100000 in
theorem rloose_any (s : ByteArray) (w : World) (hs : s.size ≤ 140737488355327) :
    Calls Tryd.prog 9 #[.string s] w fun e w' => e = .returned (.string (BA (looseL s.data.toList))) ∧ Below w.heap.size w w' := by
  have HNX : Hid (∀ k (h : k < s.size), s.data.toList.take (k + 1) = s.data.toList.take k ++ [s[k]'h]) := take_next s
  have HLN : Hid (∀ k, k ≤ s.size → (sift (s.data.toList.take k)).length ≤ k) := fun k hk => Nat.le_trans (sift_len _) (by rw [List.length_take]; omega)
  have HALL : Hid (s.data.toList.take s.size = s.data.toList) := List.take_of_length_le (by simp)
  go_enter Tryd.func9, Tryd.ntmps9
  go_wp2
  go_loopw [3, 4] (fun o i wr => ∃ k : Nat, k ≤ s.size ∧ i = .int .i64 k ∧ o = .string (BA (sift (s.data.toList.take k))) ∧ Below w.heap.size w wr) (fun _ i _ => s.size - (RowKit.intOf i).toNat)
  case atStart => exact ⟨0, Nat.zero_le _, rfl, rfl, Below.refl _ w⟩
  case round =>
    obtain ⟨k, hk, rfl, rfl, hbel⟩ := hrel
    by_cases hlt : k < s.size
    · have hlt' : (k : Int) < (s.size : Int) := by omega
      have hl := HLN.out k hk
      have htk := HNX.out k hlt
      have hbs := hbel.size
      have hlo := low_not (s[k]'hlt)
      have hgr := low_great (s[k]'hlt)
      have hel := low_else (s[k]'hlt)
      have h256 : (s[k]'hlt).toNat < 256 := UInt8.toNat_lt _
      have HSN : Hid (sift (s.data.toList.take (k + 1)) = sift (s.data.toList.take k) ++ low (s[k]'hlt)) := by rw [Hid, htk, sift_snoc]
      have HEX : Hid (s.extract k (k + 1) = BA [s[k]'hlt]) := ext_one s k hlt
      clear htk
      have HC : Hid (∃ c : UInt8, (s[k]'hlt) = c) := ⟨_, rfl⟩
      obtain ⟨c, hc⟩ := HC.out
      clear HC
      have hr0 : ((s[k]'hlt).toNat : Int) = (c.toNat : Int) := by rw [hc]
      rw [hc] at hlo hgr hel h256 HSN HEX
      clear hc
      generalize hT : sift (s.data.toList.take k) = T at *
      have hbsz : (BA T).size = T.length := rfl
      by_cases h1 : c.toNat = 32 ∨ c.toNat = 45 ∨ c.toNat = 95
      · have HN : Hid (T = sift (s.data.toList.take (k + 1))) := by rw [Hid, HSN.out, hlo h1, List.append_nil]
        clear hlo hgr hel HSN HEX
        have h1' : (c.toNat : Int) = 32 ∨ (c.toNat : Int) = 45 ∨ (c.toNat : Int) = 95 := by omega
        clear h1 h256
        generalize hr : (c.toNat : Int) = r at *
        clear hr
        cases t1 : (r == 32) with
        | true =>
          clear h1'
          go_wp2
          exact ⟨⟨k + 1, by omega, by go_num, by rw [← HN.out], hbel⟩, by simp [intOf]; omega⟩
        | false =>
          cases t2 : (r == 45) with
          | true =>
            clear h1'
            go_wp2
            exact ⟨⟨k + 1, by omega, by go_num, by rw [← HN.out], hbel⟩, by simp [intOf]; omega⟩
          | false =>
            have t3 : (r == 95) = true := by simp at t1 t2 ⊢; omega
            clear h1'
            go_wp2
            exact ⟨⟨k + 1, by omega, by go_num, by rw [← HN.out], hbel⟩, by simp [intOf]; omega⟩
      · have t1 : ((c.toNat : Int) == 32) = false := by simp; omega
        have t2 : ((c.toNat : Int) == 45) = false := by simp; omega
        have t3 : ((c.toNat : Int) == 95) = false := by simp; omega
        by_cases h2 : 65 ≤ c.toNat ∧ c.toNat ≤ 90
        · have HN : Hid (BA T ++ BA [UInt8.ofNat (c.toNat + 32)] = BA (sift (s.data.toList.take (k + 1)))) := by
            rw [Hid, HSN.out, hgr h2.1 h2.2 h1, BA_app]
          clear hlo hgr hel HSN HEX h1
          have h3' : (65 : Int) ≤ (c.toNat : Int) := by omega
          have h4' : (c.toNat : Int) ≤ 90 := by omega
          have h5' : c.toNat + 32 < 256 := by omega
          clear h2 h256
          have HCC : Hid (((c.toNat : Int) + 32).toNat = c.toNat + 32) := by unfold Hid; omega
          have e2 : IntKind.u8.wrap ((c.toNat : Int) + 32) = (c.toNat : Int) + 32 := by simp [IntKind.wrap, IntKind.signed, IntKind.bits]; omega
          have CV := conv_one wr ((c.toNat : Int) + 32) (c.toNat + 32) (by omega)
          have hcz : (BA [UInt8.ofNat (c.toNat + 32)]).size = 1 := rfl
          generalize BA [UInt8.ofNat (c.toNat + 32)] = X at *
          go_wp2
          exact ⟨⟨k + 1, by omega, by go_num, by rw [← HN.out], hbel.alloc hbs _⟩, by simp [intOf]; omega⟩
        · have HN : Hid (BA T ++ s.extract k (k + 1) = BA (sift (s.data.toList.take (k + 1)))) := by
            rw [Hid, HSN.out, hel h2 h1, HEX.out, BA_app]
          have hez : (s.extract k (k + 1)).size = 1 := by rw [HEX.out]; rfl
          clear hlo hgr hel HSN h1
          have h2' : ¬ ((65 : Int) ≤ (c.toNat : Int) ∧ (c.toNat : Int) ≤ 90) := by omega
          clear h2 h256 HEX
          generalize hr : (c.toNat : Int) = r at *
          clear hr
          by_cases h3 : 65 ≤ r
          · have h4' : ¬ r ≤ 90 := by omega
            clear h2'
            go_wp2
            exact ⟨⟨k + 1, by omega, by go_num, by rw [← HN.out], hbel⟩, by simp [intOf]; omega⟩
          · clear h2'
            go_wp2
            exact ⟨⟨k + 1, by omega, by go_num, by rw [← HN.out], hbel⟩, by simp [intOf]; omega⟩
    · have hge : ¬ (k : Int) < (s.size : Int) := by omega
      obtain rfl : k = s.size := by omega
      rw [HALL.out]
      have HLO : Hid (looseL s.data.toList = strip (sift s.data.toList)) := rfl
      have hl := HLN.out s.size (Nat.le_refl _)
      rw [HALL.out] at hl
      generalize sift s.data.toList = T at *
      have hbsz : (BA T).size = T.length := rfl
      have hx2 : (BA T).extract 0 2 = BA (T.take 2) := by rw [ext_list]; rfl
      have hx3 : (BA T).extract 2 T.length = BA (T.drop 2) := by
        rw [ext_list]
        show BA ((T.drop 2).take _) = _
        rw [List.take_of_length_le (by simp)]
      by_cases h2 : 2 < T.length
      · have h2' : (2 : Int) < (T.length : Int) := by omega
        by_cases h3 : T.take 2 = [105, 115]
        · have t1 : ((BA (T.take 2)).toList == [105, 115]) = true := by rw [Lib.toList_data, BA_data, h3]; rfl
          have HE : Hid (looseL s.data.toList = T.drop 2) := by rw [Hid, HLO.out, strip, if_pos ⟨h2, h3⟩]
          clear h3 HLO
          go_wp2
          go_ret
          exact ⟨by rw [HE.out]; rfl, hbel⟩
        · have t1 : ((BA (T.take 2)).toList == [105, 115]) = false := by
            rw [beq_eq_false_iff_ne, Lib.toList_data, BA_data]
            exact h3
          have HE : Hid (looseL s.data.toList = T) := by rw [Hid, HLO.out, strip, if_neg (fun h => h3 h.2)]
          clear h3 HLO
          go_wp2
          go_ret
          exact ⟨by rw [HE.out]; rfl, hbel⟩
      · have h2' : ¬ (2 : Int) < (T.length : Int) := by omega
        have HE : Hid (looseL s.data.toList = T) := by rw [Hid, HLO.out, strip, if_neg (fun h => h2 h.1)]
        clear HLO
        go_wp2
        go_ret
        exact ⟨by rw [HE.out]; rfl, hbel⟩
end Go.Proofs.YtnpnmhjhohhnjaaDoor.nam
