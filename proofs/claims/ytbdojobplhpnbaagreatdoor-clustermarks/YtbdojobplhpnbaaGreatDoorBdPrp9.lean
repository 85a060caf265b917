/- Texts that the proof leans on, one behind the other. -/
import Derived.Test.YtbdojobplhpnbaaGreatDoorBdPrp8

section
/- The document's Category, Script, Word, Cluster, Combining. -/
set_option linter.unusedVariables false
set_option linter.unusedSimpArgs false
namespace Go.Proofs.YtbdojobplhpnbaaGreatDoor.prp
open Go.RowKit Go.Maps lin

theorem view_sl {w : World} {v : Value} {rs : List RecT} (h : View w v rs) : ∃ a c, v = .slice a rs.length c := by obtain ⟨a, c, e, _⟩ := h; exact ⟨a, c, e⟩
set_option maxHeartbeats 1000000 in
set_option maxRecDepth 1000000 in
theorem rcluster_t (t : Nat) (r : Int) (w : World) (h : RTabs w t) (hr : okI r) : Calls Tryz.prog 39 #[.pointer (some ⟨t, 0, none⟩), .int .i64 r] w fun e w' => e = .returned (.string (BA (clF r))) ∧ Below w.heap.size w w' := by
  obtain ⟨v, hc, hV⟩ := h.clu
  have C := or_any v cluL r [] w hV clu_ok.1 clu_ok.2.1 clu_ok.2.2
  rw [show orF cluL r [] = sF [] cluL r from (sF_first [] cluL clu_apart r).symm] at C
  obtain ⟨a, c, rfl⟩ := view_sl hV
  generalize (cluL.map recOf).length = n at *
  have HCF : Hid (clF r = if r < 44032 ∨ 55203 < r then sF [] cluL r else if (r - 44032) % 28 = 0 then [76, 86] else [76, 86, 84]) := rfl
  generalize sF [] cluL r = X at *
  generalize clF r = Y at *
  rw [show BA [] = ⟨#[]⟩ from rfl] at C
  clear h hV
  obtain ⟨hr1, hr2⟩ := hr
  by_cases h1 : 44032 ≤ r
  · by_cases h2 : r ≤ 55203
    · have wr : IntKind.i64.wrap (r - 44032) = r - 44032 := by rw [IntKind.wrap_i64]; omega
      have w2 : wrap64 (r - 44032) = r - 44032 := by unfold wrap64; omega
      have tm : (r - 44032).tmod 28 = (r - 44032) % 28 := Int.tmod_eq_emod_of_nonneg (by omega)
      have w3 : IntKind.i64.wrap ((r - 44032) % 28) = (r - 44032) % 28 := by rw [IntKind.wrap_i64]; omega
      have w4 : wrap64 ((r - 44032) % 28) = (r - 44032) % 28 := by unfold wrap64; omega
      by_cases h3 : (r - 44032) % 28 = 0
      · have HY : Hid (Y = [76, 86]) := by unfold Hid; rw [HCF.out, if_neg (by omega), if_pos h3]
        have h3' : ((r - 44032) % 28 == 0) = true := beq_iff_eq.2 h3
        clear HCF C h3
        generalize (r - 44032) % 28 = Z at *
        go_enter Tryz.func39, Tryz.ntmps39
        go_wp2
        try rw [Exit.noGoto_ret]
        go_ret
        exact ⟨by rw [HY.out]; rfl, Below.refl _ _⟩
      · have HY : Hid (Y = [76, 86, 84]) := by unfold Hid; rw [HCF.out, if_neg (by omega), if_neg h3]
        have h3' : ((r - 44032) % 28 == 0) = false := beq_eq_false_iff_ne.2 h3
        clear HCF C h3
        generalize (r - 44032) % 28 = Z at *
        go_enter Tryz.func39, Tryz.ntmps39
        go_wp2
        try rw [Exit.noGoto_ret]
        go_ret
        exact ⟨by rw [HY.out]; rfl, Below.refl _ _⟩
    · have HY : Hid (Y = X) := by unfold Hid; rw [HCF.out, if_pos (by omega)]
      clear HCF
      go_enter Tryz.func39, Tryz.ntmps39
      go_wp2_with fail
      refine C.mono ?_
      rintro e w1 ⟨rfl, hb⟩
      clear C
      go_wp2
      try rw [Exit.noGoto_ret]
      go_ret
      exact ⟨by rw [HY.out]; rfl, hb⟩
  · have HY : Hid (Y = X) := by unfold Hid; rw [HCF.out, if_pos (by omega)]
    clear HCF
    go_enter Tryz.func39, Tryz.ntmps39
    go_wp2_with fail
    refine C.mono ?_
    rintro e w1 ⟨rfl, hb⟩
    clear C
    go_wp2
    try rw [Exit.noGoto_ret]
    go_ret
    exact ⟨by rw [HY.out]; rfl, hb⟩
theorem dig_bound (l : List UInt8) (h : l.length ≤ 3) : 0 ≤ digL l ∧ digL l ≤ 28305 := by
  match l, h with
  | [], _ => exact ⟨by decide, by decide⟩
  | [a], _ =>
    have ha : (a - 48).toNat < 256 := UInt8.toNat_lt _
    simp only [digL, List.foldl_cons, List.foldl_nil]
    omega
  | [a, b], _ =>
    have ha : (a - 48).toNat < 256 := UInt8.toNat_lt _
    have hb : (b - 48).toNat < 256 := UInt8.toNat_lt _
    simp only [digL, List.foldl_cons, List.foldl_nil]
    omega
  | [a, b, c], _ =>
    have ha : (a - 48).toNat < 256 := UInt8.toNat_lt _
    have hb : (b - 48).toNat < 256 := UInt8.toNat_lt _
    have hc : (c - 48).toNat < 256 := UInt8.toNat_lt _
    simp only [digL, List.foldl_cons, List.foldl_nil]
    omega
theorem dig_snoc (l : List UInt8) (c : UInt8) : digL (l ++ [c]) = 10 * digL l + ((c - 48).toNat : Int) := by unfold digL; rw [List.foldl_append]; rfl
theorem sub48 (c : UInt8) : IntKind.u8.wrap ((c.toNat : Int) - 48) = ((c - 48).toNat : Int) := by
  have h := UInt8.toNat_lt c
  rw [UInt8.toNat_sub]
  simp [IntKind.wrap, IntKind.signed, IntKind.bits]
  omega
end Go.Proofs.YtbdojobplhpnbaaGreatDoor.prp
end
