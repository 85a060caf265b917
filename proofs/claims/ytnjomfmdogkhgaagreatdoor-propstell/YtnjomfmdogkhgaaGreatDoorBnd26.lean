/- Texts that the proof leans on, one behind the other. -/
import Derived.Test.YtnjomfmdogkhgaaGreatDoorBnd25

section
/- The document's Category, Script, Word, Cluster, Combining. -/
set_option linter.unusedVariables false
set_option linter.unusedSimpArgs false
namespace Go.Proofs.YtnjomfmdogkhgaaGreatDoor.prp
open Go.RowKit Go.Maps lin

theorem view_sl {w : World} {v : Value} {rs : List RecT} (h : View w v rs) : ∃ a c, v = .slice a rs.length c := by obtain ⟨a, c, e, _⟩ := h; exact ⟨a, c, e⟩
set_option maxHeartbeats 1000000 in
set_option maxRecDepth 1000000 in
theorem rcategory_t (t : Nat) (r : Int) (w : World) (h : RTabs w t) : Calls Tryz.prog 12 #[.pointer (some ⟨t, 0, none⟩), .int .i64 r] w fun e w' => e = .returned (.string (BA (sF [67, 110] catL r))) ∧ Below w.heap.size w w' := by
  obtain ⟨v, hc, hV⟩ := h.cat
  have C := or_any v catL r [67, 110] w hV cat_ok.1 cat_ok.2.1 (fun x hx => (cat_ok.2.2 x hx).1)
  rw [show orF catL r [67, 110] = sF [67, 110] catL r from (sF_first [67, 110] catL cat_apart r).symm] at C
  generalize sF [67, 110] catL r = X at *
  rw [show BA [67, 110] = ⟨#[67, 110]⟩ from rfl] at C
  obtain ⟨a, c, rfl⟩ := view_sl hV
  generalize (catL.map recOf).length = n at *
  clear h hV
  go_enter Tryz.func12, Tryz.ntmps12
  go_wp2_with fail
  refine C.mono ?_
  rintro e w1 ⟨rfl, hb⟩
  clear C
  go_wp2
  try rw [Exit.noGoto_ret]
  go_ret
  exact ⟨rfl, hb⟩
set_option maxHeartbeats 1000000 in
set_option maxRecDepth 1000000 in
theorem rscript_t (t : Nat) (r : Int) (w : World) (h : RTabs w t) : Calls Tryz.prog 16 #[.pointer (some ⟨t, 0, none⟩), .int .i64 r] w fun e w' => e = .returned (.string (BA (sF [90, 122, 122, 122] scrL r))) ∧ Below w.heap.size w w' := by
  obtain ⟨v, hc, hV⟩ := h.scr
  have C := or_any v scrL r [90, 122, 122, 122] w hV scr_ok.1 scr_ok.2.1 (fun x hx => (scr_ok.2.2 x hx).1)
  rw [show orF scrL r [90, 122, 122, 122] = sF [90, 122, 122, 122] scrL r from (sF_first [90, 122, 122, 122] scrL scr_apart r).symm] at C
  generalize sF [90, 122, 122, 122] scrL r = X at *
  rw [show BA [90, 122, 122, 122] = ⟨#[90, 122, 122, 122]⟩ from rfl] at C
  obtain ⟨a, c, rfl⟩ := view_sl hV
  generalize (scrL.map recOf).length = n at *
  clear h hV
  go_enter Tryz.func16, Tryz.ntmps16
  go_wp2_with fail
  refine C.mono ?_
  rintro e w1 ⟨rfl, hb⟩
  clear C
  go_wp2
  try rw [Exit.noGoto_ret]
  go_ret
  exact ⟨rfl, hb⟩
set_option maxHeartbeats 1000000 in
set_option maxRecDepth 1000000 in
theorem rword_t (t : Nat) (r : Int) (w : World) (h : RTabs w t) : Calls Tryz.prog 20 #[.pointer (some ⟨t, 0, none⟩), .int .i64 r] w fun e w' => e = .returned (.string (BA (sF [] worL r))) ∧ Below w.heap.size w w' := by
  obtain ⟨v, hc, hV⟩ := h.wor
  have C := or_any v worL r [] w hV wor_ok.1 wor_ok.2.1 wor_ok.2.2
  rw [show orF worL r [] = sF [] worL r from (sF_first [] worL wor_apart r).symm] at C
  generalize sF [] worL r = X at *
  rw [show BA [] = ⟨#[]⟩ from rfl] at C
  obtain ⟨a, c, rfl⟩ := view_sl hV
  generalize (worL.map recOf).length = n at *
  clear h hV
  go_enter Tryz.func20, Tryz.ntmps20
  go_wp2_with fail
  refine C.mono ?_
  rintro e w1 ⟨rfl, hb⟩
  clear C
  go_wp2
  try rw [Exit.noGoto_ret]
  go_ret
  exact ⟨rfl, hb⟩
set_option maxHeartbeats 1000000 in
set_option maxRecDepth 1000000 in
theorem rcluster_t (t : Nat) (r : Int) (w : World) (h : RTabs w t) (hr : okI r) : Calls Tryz.prog 18 #[.pointer (some ⟨t, 0, none⟩), .int .i64 r] w fun e w' => e = .returned (.string (BA (clF r))) ∧ Below w.heap.size w w' := by
  obtain ⟨v, hc, hV⟩ := h.clu
  have C := or_any v cluL r [] w hV clu_ok.1 clu_ok.2.1 clu_ok.2.2
  rw [show orF cluL r [] = sF [] cluL r from (sF_first [] cluL clu_apart r).symm] at C
  obtain ⟨a, c, rfl⟩ := view_sl hV
  generalize (cluL.map recOf).length = n at *
  have HCF : Hid (clF r = if r < 44032 ∨ 55203 < r then sF [] cluL r else if (r - 44032) % 28 = 0 then [76, 86] else [76, 86, 84]) := rfl
  generalize sF [] cluL r = X at *
  generalize clF r = Y at *
  rw [show BA [] = ⟨#[]⟩ from rfl] at C
  clear h hV
  obtain ⟨hr1, hr2⟩ := hr
  by_cases h1 : 44032 ≤ r
  · by_cases h2 : r ≤ 55203
    · have wr : IntKind.i64.wrap (r - 44032) = r - 44032 := by rw [IntKind.wrap_i64]; omega
      have w2 : wrap64 (r - 44032) = r - 44032 := by unfold wrap64; omega
      have tm : (r - 44032).tmod 28 = (r - 44032) % 28 := Int.tmod_eq_emod_of_nonneg (by omega)
      have w3 : IntKind.i64.wrap ((r - 44032) % 28) = (r - 44032) % 28 := by rw [IntKind.wrap_i64]; omega
      have w4 : wrap64 ((r - 44032) % 28) = (r - 44032) % 28 := by unfold wrap64; omega
      by_cases h3 : (r - 44032) % 28 = 0
      · have HY : Hid (Y = [76, 86]) := by unfold Hid; rw [HCF.out, if_neg (by omega), if_pos h3]
        have h3' : ((r - 44032) % 28 == 0) = true := beq_iff_eq.2 h3
        clear HCF C h3
        generalize (r - 44032) % 28 = Z at *
        go_enter Tryz.func18, Tryz.ntmps18
        go_wp2
        try rw [Exit.noGoto_ret]
        go_ret
        exact ⟨by rw [HY.out]; rfl, Below.refl _ _⟩
      · have HY : Hid (Y = [76, 86, 84]) := by unfold Hid; rw [HCF.out, if_neg (by omega), if_neg h3]
        have h3' : ((r - 44032) % 28 == 0) = false := beq_eq_false_iff_ne.2 h3
        clear HCF C h3
        generalize (r - 44032) % 28 = Z at *
        go_enter Tryz.func18, Tryz.ntmps18
        go_wp2
        try rw [Exit.noGoto_ret]
        go_ret
        exact ⟨by rw [HY.out]; rfl, Below.refl _ _⟩
    · have HY : Hid (Y = X) := by unfold Hid; rw [HCF.out, if_pos (by omega)]
      clear HCF
      go_enter Tryz.func18, Tryz.ntmps18
      go_wp2_with fail
      refine C.mono ?_
      rintro e w1 ⟨rfl, hb⟩
      clear C
      go_wp2
      try rw [Exit.noGoto_ret]
      go_ret
      exact ⟨by rw [HY.out]; rfl, hb⟩
  · have HY : Hid (Y = X) := by unfold Hid; rw [HCF.out, if_pos (by omega)]
    clear HCF
    go_enter Tryz.func18, Tryz.ntmps18
    go_wp2_with fail
    refine C.mono ?_
    rintro e w1 ⟨rfl, hb⟩
    clear C
    go_wp2
    try rw [Exit.noGoto_ret]
    go_ret
    exact ⟨by rw [HY.out]; rfl, hb⟩
theorem dig_bound (l : List UInt8) (h : l.length ≤ 3) : 0 ≤ digL l ∧ digL l ≤ 28305 := by
  match l, h with
  | [], _ => exact ⟨by decide, by decide⟩
  | [a], _ =>
    have ha : (a - 48).toNat < 256 := UInt8.toNat_lt _
    simp only [digL, List.foldl_cons, List.foldl_nil]
    omega
  | [a, b], _ =>
    have ha : (a - 48).toNat < 256 := UInt8.toNat_lt _
    have hb : (b - 48).toNat < 256 := UInt8.toNat_lt _
    simp only [digL, List.foldl_cons, List.foldl_nil]
    omega
  | [a, b, c], _ =>
    have ha : (a - 48).toNat < 256 := UInt8.toNat_lt _
    have hb : (b - 48).toNat < 256 := UInt8.toNat_lt _
    have hc : (c - 48).toNat < 256 := UInt8.toNat_lt _
    simp only [digL, List.foldl_cons, List.foldl_nil]
    omega
theorem dig_snoc (l : List UInt8) (c : UInt8) : digL (l ++ [c]) = 10 * digL l + ((c - 48).toNat : Int) := by unfold digL; rw [List.foldl_append]; rfl
theorem sub48 (c : UInt8) : IntKind.u8.wrap ((c.toNat : Int) - 48) = ((c - 48).toNat : Int) := by
  have h := UInt8.toNat_lt c
  rw [UInt8.toNat_sub]
  simp [IntKind.wrap, IntKind.signed, IntKind.bits]
  omega
set_option maxHeartbeats 1000000 in
set_option maxRecDepth 1000000 in
theorem rcombining_t (t : Nat) (r : Int) (w : World) (h : RTabs w t) : Calls Tryz.prog 14 #[.pointer (some ⟨t, 0, none⟩), .int .i64 r] w fun e w' => e = .returned (.int .i64 (iF comL r)) ∧ Below w.heap.size w w' := by
  obtain ⟨v, hc, hV⟩ := h.com
  have C := or_any v comL r [48] w hV com_ok.1 com_ok.2.1 com_ok.2.2
  obtain ⟨e1, e2⟩ := comF_first r
  rw [e1]
  clear e1
  generalize orF comL r [48] = D at *
  rw [show BA [48] = ⟨#[48]⟩ from rfl] at C
  obtain ⟨a, c, rfl⟩ := view_sl hV
  generalize (comL.map recOf).length = n at *
  have hbz : (BA D).size = D.length := BA_size D
  have HNX : Hid (∀ k (h : k < (BA D).size), D.take (k + 1) = D.take k ++ [(BA D)[k]'h]) := fun k h => by
    have hk : k < D.length := by rw [← hbz]; exact h
    rw [List.take_add_one, List.getElem?_eq_getElem hk]; rfl
  have HDB : Hid (∀ k, 0 ≤ digL (D.take k) ∧ digL (D.take k) ≤ 28305) := fun k => dig_bound _ (by rw [List.length_take]; omega)
  have HAL : Hid (D.take (BA D).size = D) := List.take_of_length_le (by omega)
  clear h hV
  go_enter Tryz.func14, Tryz.ntmps14
  go_wp2_with fail
  refine C.mono ?_
  rintro e w1 ⟨rfl, hb⟩
  clear C
  go_wp2
  go_loopw [5, 7] (fun u5 u7 wr => ∃ k : Nat, k ≤ (BA D).size ∧ u7 = .int .i64 k ∧ u5 = .int .i64 (digL (D.take k)) ∧ wr = w1) (fun _ u7 _ => (BA D).size - (RowKit.intOf u7).toNat)
  case atStart => exact ⟨0, Nat.zero_le _, rfl, rfl, rfl⟩
  case round =>
    obtain ⟨k, hk, rfl, rfl, hwr⟩ := hrel
    subst hwr
    by_cases hlt : k < (BA D).size
    · have hlt' : (k : Int) < ((BA D).size : Int) := by omega
      have htk := HNX.out k hlt
      have hd := dig_snoc (D.take k) ((BA D)[k]'hlt)
      rw [← htk] at hd
      obtain ⟨d1, d2⟩ := HDB.out k
      have hs := sub48 ((BA D)[k]'hlt)
      have h256 : (((BA D)[k]'hlt) - 48).toNat < 256 := UInt8.toNat_lt _
      have HDN : Hid (digL (D.take (k + 1)) = 10 * digL (D.take k) + ((((BA D)[k]'hlt) - 48).toNat : Int)) := hd
      clear htk hd
      generalize digL (D.take k) = N at *
      generalize hM : ((((BA D)[k]'hlt) - 48).toNat : Int) = M at *
      have m1 : 0 ≤ M ∧ M < 256 := by omega
      have x1 : IntKind.i64.wrap (10 * N) = 10 * N := by rw [IntKind.wrap_i64]; omega
      have x2 : IntKind.i64.wrap M = M := by rw [IntKind.wrap_i64]; omega
      have x3 : IntKind.i64.wrap (10 * N + M) = 10 * N + M := by rw [IntKind.wrap_i64]; omega
      have x4 : wrap64 (10 * N) = 10 * N := by unfold wrap64; omega
      have x5 : wrap64 M = M := by unfold wrap64; omega
      have x6 : wrap64 (10 * N + M) = 10 * N + M := by unfold wrap64; omega
      have HS2 : Hid (((((BA D)[k]'hlt).toNat : Int) - 48) % 256 = M) := by
        have := hs
        simp [IntKind.wrap, IntKind.signed, IntKind.bits] at this
        exact this
      clear hM h256
      go_wp2
      refine ⟨⟨k + 1, by omega, by go_num, ?_, by first | rfl | trivial⟩, by simp [RowKit.intOf]; omega⟩
      rw [HDN.out]
    · have hge : ¬ (k : Int) < ((BA D).size : Int) := by omega
      obtain rfl : k = (BA D).size := by omega
      rw [HAL.out]
      go_wp2
      go_ret
      exact ⟨rfl, hb⟩
end Go.Proofs.YtnjomfmdogkhgaaGreatDoor.prp
end
