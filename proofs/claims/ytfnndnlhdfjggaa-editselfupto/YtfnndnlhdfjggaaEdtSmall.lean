/- What the small functions of edit answer: isDigit, isLetter, isNumber, isName, valueOf, and of bytes: HasPrefix at one byte, IndexByte. -/
import Derived.Test.YtfnndnlhdfjggaaEdtMem
import Derived.Test.YtfnndnlhdfjggaaEdtPure
import Derived.Shelf.Bytes.SlIndexAt
set_option linter.unusedVariables false
set_option linter.unusedSimpArgs false
namespace Go.Proofs.Ytfnndnlhdfjggaa.edt
open Go.RowKit

theorem isDigit_any (c : Int) (w : World) :
    Calls Try.prog 39 #[.int .u8 c] w fun e w' => e = .returned (.bool (dg c)) ∧ w' = w := by
  go_enter Try.func39, Try.ntmps39
  go_wp2
  all_goals (go_ret; exact ⟨ret_bool (by simp [dg]; try omega), rfl⟩)
theorem isLetter_any (c : Int) (w : World) :
    Calls Try.prog 50 #[.int .u8 c] w fun e w' => e = .returned (.bool (lt_ c)) ∧ w' = w := by
  go_enter Try.func50, Try.ntmps50
  go_wp2
  all_goals (go_ret; exact ⟨ret_bool (by unfold lt_; rw [Bool.eq_iff_iff]; simp; try omega), rfl⟩)
theorem rdigit_any (c : Int) (w : World) :
    Calls Try.prog 25 #[.int .u8 c] w fun e w' => e = .returned (.bool (dg c)) ∧ w' = w := by
  go_enter Try.func25, Try.ntmps25
  go_wp2
  all_goals (go_ret; exact ⟨ret_bool (by simp [dg]; try omega), rfl⟩)

theorem isNumber_any (ao : Option Addr) (n cap : Nat) (l : List Int) (w : World) (hB : BS w ao n cap l) :
    Calls Try.prog 47 #[.slice ao n cap] w fun e w' => e = .returned (.bool (l.all dg && decide (n ≤ 3))) ∧ w' = w := by
  have hn := hB.nc
  have hm := hB.cm
  have HB : Hid (BS w ao n cap l) := hB
  clear hB
  go_enter Try.func47, Try.ntmps47
  go_wp2
  go_loopw [7] (fun i wr => ∃ k : Nat, k ≤ n ∧ i = .int .i64 k ∧ wr = w ∧ Hid ((l.drop k).all dg = l.all dg)) (fun i _ => n - (intOf i).toNat)
  case atStart => exact ⟨0, Nat.zero_le _, rfl, rfl, rfl⟩
  case round =>
    obtain ⟨k, hk, rfl, rfl, HK⟩ := hrel
    by_cases hlt : k < n
    · obtain ⟨b, off, rfl, hc⟩ := HB.out.at_ (by omega)
      have hck := hc k hlt
      have HK2 : Hid ((dg (l.getD k 0) && (l.drop (k + 1)).all dg) = l.all dg) := by rw [← all_drop k (by rw [HB.out.len]; exact hlt)]; exact HK.out
      clear hc HK
      generalize l.getD k 0 = x at *
      have D := isDigit_any x wr
      cases hd : dg x with
      | false =>
        rw [hd] at D
        go_wp2_with (go_at_call 39; refine D.mono ?_; rintro e w' ⟨rfl, hw⟩; subst hw)
        go_ret
        have := HK2.out
        rw [hd] at this
        exact ⟨ret_bool (by rw [← this]; rfl), rfl⟩
      | true =>
        rw [hd] at D
        go_wp2_with (go_at_call 39; refine D.mono ?_; rintro e w' ⟨rfl, hw⟩; subst hw)
        go_roundw
        case rel => exact ⟨k + 1, by omega, by go_num, by first | trivial | rfl, by have := HK2.out; rw [hd, Bool.true_and] at this; exact this⟩
        case measure => simp [intOf]; omega
    · obtain rfl : k = n := by omega
      have e1 : l.all dg = true := by rw [← HK.out, List.drop_eq_nil_of_le (by rw [HB.out.len]; exact Nat.le_refl _)]; rfl
      go_wp2
      go_ret
      exact ⟨ret_bool (by rw [e1, Bool.true_and]; first | rfl | (rw [decide_eq_decide]; omega) | trace_state), rfl⟩

theorem isName_any (ao : Option Addr) (n cap : Nat) (l : List Int) (w : World) (hB : BS w ao n cap l) (h0 : 0 < n) :
    Calls Try.prog 48 #[.slice ao n cap] w fun e w' => e = .returned (.bool (l.all ld && !dg (l.getD 0 0))) ∧ w' = w := by
  have hn := hB.nc
  have hm := hB.cm
  obtain ⟨b, off, rfl, hcc⟩ := hB.at_ h0
  have c0 : w.cell? ⟨b, off, none⟩ = some (.int .u8 (l.getD 0 0)) := hcc 0 h0
  have HC : Hid (∀ i, i < n → w.cell? ⟨b, off + i, none⟩ = some (.int .u8 (l.getD i 0))) := hcc
  have hl : Hid (l.length = n) := hB.len
  clear hB hcc
  go_enter Try.func48, Try.ntmps48
  go_wp2
  go_loopw [7] (fun i wr => ∃ k : Nat, k ≤ n ∧ i = .int .i64 k ∧ wr = w ∧ Hid ((l.drop k).all ld = l.all ld)) (fun i _ => n - (intOf i).toNat)
  case atStart => exact ⟨0, Nat.zero_le _, rfl, rfl, rfl⟩
  case round =>
    obtain ⟨k, hk, rfl, rfl, HK⟩ := hrel
    by_cases hlt : k < n
    · have hck := HC.out k hlt
      have HK2 : Hid ((ld (l.getD k 0) && (l.drop (k + 1)).all ld) = l.all ld) := by rw [← all_drop k (by rw [hl.out]; exact hlt)]; exact HK.out
      clear HK
      generalize l.getD k 0 = x at *
      have D := isDigit_any x wr
      have T := isLetter_any x wr
      have HX : Hid (ld x = (lt_ x || dg x)) := rfl
      cases hd : dg x <;> cases ht : lt_ x <;> rw [hd] at D <;> rw [ht] at T <;> go_wp2_with (first | (go_at_call 39; refine D.mono ?_; rintro e w' ⟨rfl, hw⟩; subst hw) | (go_at_call 50; refine T.mono ?_; rintro e w' ⟨rfl, hw⟩; subst hw))
      · go_ret
        have e1 := HK2.out
        rw [HX.out, hd, ht] at e1
        exact ⟨ret_bool (by rw [← e1]; rfl), rfl⟩
      all_goals
        go_roundw
        case rel => exact ⟨k + 1, by omega, by go_num, by first | trivial | rfl, by have := HK2.out; rw [HX.out, hd, ht] at this; exact this⟩
        case measure => simp [intOf]; omega
    · obtain rfl : k = n := by omega
      have e1 : l.all ld = true := by rw [← HK.out, List.drop_eq_nil_of_le (by rw [hl.out]; exact Nat.le_refl _)]; rfl
      obtain ⟨x, hx⟩ : ∃ x, l.getD 0 0 = x := ⟨_, rfl⟩
      rw [hx] at c0
      have HX : Hid (l.getD 0 0 = x) := hx
      clear hx
      have D := isDigit_any x wr
      go_wp2_with (go_at_call 39; refine D.mono ?_; rintro e w' ⟨rfl, hw⟩; subst hw)
      go_ret
      exact ⟨ret_bool (by rw [HX.out, e1]; simp), rfl⟩

theorem val_le : ∀ (m : Nat) (l : List Int), l.length = m → (∀ x ∈ l, dg x = true) → 0 ≤ val l ∧ val l < 10 ^ m
  | 0, l, e, _ => by obtain rfl := List.eq_nil_of_length_eq_zero e; decide
  | m + 1, l, e, h => by
    have e1 := take_snoc l m 0 (by omega)
    rw [List.take_of_length_le (by omega)] at e1
    obtain ⟨h1, h2⟩ := val_le m (l.take m) (by rw [List.length_take]; omega) (fun x hx => h x (List.mem_of_mem_take hx))
    have hc := (dg_iff (l.getD m 0)).1 (h _ (by rw [List.getD_eq_getElem?_getD, List.getElem?_eq_getElem (by omega)]; exact List.getElem_mem _))
    rw [e1, val_snoc, Int.pow_succ]
    omega
theorem valueOf_any (ao : Option Addr) (n cap : Nat) (l : List Int) (w : World) (hB : BS w ao n cap l) (h3 : n ≤ 3) (hd : ∀ x ∈ l, dg x = true) :
    Calls Try.prog 40 #[.slice ao n cap] w fun e w' => e = .returned (.int .i64 (val l)) ∧ w' = w := by
  have hn := hB.nc
  have hm := hB.cm
  have HB : Hid (BS w ao n cap l) := hB
  have HD : Hid (∀ x ∈ l, dg x = true) := hd
  clear hB hd
  go_enter Try.func40, Try.ntmps40
  go_wp2
  go_loopw [3, 8] (fun s i wr => ∃ (k : Nat) (v : Int), k ≤ n ∧ i = .int .i64 k ∧ s = .int .i64 v ∧ wr = w ∧ Hid (v = val (l.take k))) (fun _ i _ => n - (intOf i).toNat)
  case atStart => exact ⟨0, 0, Nat.zero_le _, rfl, rfl, rfl, rfl⟩
  case round =>
    obtain ⟨k, v, hk, rfl, rfl, rfl, HK⟩ := hrel
    by_cases hlt : k < n
    · obtain ⟨b, off, rfl, hc⟩ := HB.out.at_ (by omega)
      have hl := HB.out.len
      have hck := hc k hlt
      have hx : dg (l.getD k 0) = true := HD.out _ (by rw [List.getD_eq_getElem?_getD, List.getElem?_eq_getElem (by omega)]; exact List.getElem_mem _)
      have hx2 := (dg_iff _).1 hx
      have hv := val_le _ (l.take k) rfl (fun x hx => HD.out x (List.mem_of_mem_take hx))
      have HT : Hid (val (l.take (k + 1)) = 10 * v + (l.getD k 0 - 48)) := by show val (l.take (k + 1)) = _; rw [take_snoc l k 0 (by omega), val_snoc, HK.out]
      have hv2 : 0 ≤ v ∧ v < 1000 := by
        rw [HK.out]
        refine ⟨hv.1, Int.lt_of_lt_of_le hv.2 ?_⟩
        have hk3 : (l.take k).length ≤ 3 := by rw [List.length_take]; omega
        generalize (l.take k).length = m at hk3
        match m, hk3 with
        | 0, _ => decide
        | 1, _ => decide
        | 2, _ => decide
        | 3, _ => decide
      clear hc HK hx hv hl
      generalize l.getD k 0 = x at *
      have e1 : x - 48 < 256 := by omega
      go_wp2
      go_roundw
      case rel => exact ⟨k + 1, 10 * v + (x - 48), by omega, by go_num, by go_num, by first | trivial | rfl, HT.out.symm⟩
      case measure => simp [intOf]; omega
    · obtain rfl : k = n := by omega
      have e1 : v = val l := by rw [HK.out, List.take_of_length_le (by rw [HB.out.len]; exact Nat.le_refl _)]
      go_wp2
      go_ret
      exact ⟨ret_int e1, rfl⟩

theorem index_any (b off n cap : Nat) (l : List Int) (c : Int) (hc : 0 ≤ c) (hc2 : c ≤ 255) (w : World) (hB : BS w (some ⟨b, off, none⟩) n cap l) :
    Calls Try.prog 46 #[.slice (some ⟨b, off, none⟩) n cap, .int .u8 c] w fun e w' => e = .returned (.int .i64 (ix c l)) ∧ w' = w := by
  have R := Lib.run_indexByteAt (P := Try.prog) w ⟨b, off, none⟩ n cap l hB.len (fun i hi => by
    rw [Addr.add_lit]
    rcases hB.cell with h | ⟨b', off', e, h⟩
    · omega
    · cases e; exact h i hi) c
  have e1 : c.toNat.toUInt8 = UInt8.ofNat c.toNat := rfl
  rw [e1, ix_bytes c hc hc2 l (mem_range hB.rg)] at R
  clear hB
  go_enter Try.func46, Try.ntmps46
  go_wp2
  rw [run_callFunc_extern Try.func49 (by kernel_rfl) (by kernel_rfl) (by kernel_rfl) (e := Extern.BytealgIndexByte.indexByte) (by kernel_rfl), R]
  simp only [Result.andThen]
  rw [Oper.upon_value]
  go_wp2
  go_ret
  exact ⟨rfl, rfl⟩
end Go.Proofs.Ytfnndnlhdfjggaa.edt
